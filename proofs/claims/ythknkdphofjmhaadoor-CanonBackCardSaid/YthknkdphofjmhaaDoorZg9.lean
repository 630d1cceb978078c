/- Texts of my own, laid together: HeadBackP, ReadP, ReadT, ReadB, EncB. -/
import Derived.Test.YthknkdphofjmhaaDoorZg7
import Derived.Test.YthknkdphofjmhaaDoorZg4
/- Heads go there and back: the plain mathematics. -/
namespace Go.Proofs.YthknkdphofjmhaaDoor.HeadP

theorem size_bytes (m n : Int) (o : Bool) (h : right m n o = true) : size m n o = (bytes m n o).length := by
  have hf := following_le (low n o)
  unfold size bytes
  rw [if_pos h, List.length_cons, be_length]
  omega
theorem low_right (m n : Int) (o : Bool) (h : right m n o = true) (h0 : 0 ≤ n) (h1 : n ≤ 18446744073709551615) :
    (o = true ∧ n = 0 ∧ mayOpen m = true ∧ low n o = 31) ∨ (o = false ∧ low n o = n ∧ n < 24) ∨ (o = false ∧ 24 ≤ low n o ∧ low n o ≤ 27 ∧ n < 2 ^ (8 * (following (low n o)).toNat)) := by
  unfold right at h
  cases o
  · have e : low n false = lowN n := rfl
    by_cases a : n < 24
    · exact .inr (.inl ⟨rfl, by rw [e]; unfold lowN; rw [if_pos a], a⟩)
    · refine .inr (.inr ⟨rfl, ?_⟩)
      rw [e]
      unfold lowN
      rw [if_neg a]
      split
      · exact ⟨by omega, by omega, by simp [following]; omega⟩
      split
      · exact ⟨by omega, by omega, by simp [following]; omega⟩
      split
      · exact ⟨by omega, by omega, by simp [following]; omega⟩
      · exact ⟨by omega, by omega, by simp [following]; omega⟩
  · simp only [if_true, Bool.and_eq_true, beq_iff_eq] at h
    exact .inl ⟨rfl, h.1, h.2, rfl⟩

theorem read_back (m n : Int) (o : Bool) (ahead behind : List Int) (h : right m n o = true) (h0 : 0 ≤ n) (h1 : n ≤ 18446744073709551615) :
    read (ahead ++ bytes m n o ++ behind) ahead.length = (m, n, o, (ahead.length : Int) + ((bytes m n o).length : Int), 0) := by
  have hm := right_major m n o h
  have hl := low_le n o h0
  have hf := following_le (low n o)
  rw [read_in _ _ (by simp)]
  rw [show (ahead ++ bytes m n o ++ behind).drop ahead.length = (m * 32 + low n o) :: (be n (following (low n o)).toNat ++ behind) from by simp [bytes]]
  have e1 : (m * 32 + low n o) % 32 = low n o := by omega
  have e2 : (m * 32 + low n o) / 32 = m := by omega
  have hs : ¬ (be n (following (low n o)).toNat ++ behind).length < (following (low n o)).toNat := by simp [be_length]; omega
  have hlen : ((bytes m n o).length : Int) = 1 + following (low n o) := by simp only [bytes, List.length_cons, be_length]; omega
  rw [hlen]
  rcases low_right m n o h h0 h1 with ⟨rfl, rfl, ho, hlo⟩ | ⟨rfl, hlo, hn⟩ | ⟨rfl, hlo1, hlo2, hn⟩
  · rw [readL_open _ _ _ (by rw [e1]; exact hs) (by omega), e1, e2, hlo]
    simp [opened, ho, following]
  · have hz : following (low n false) = 0 := by rcases following_cases (low n false) with h | h | h | h | h <;> omega
    rw [readL_low _ _ _ (by omega) (by rw [e1]; exact hz), e1, e2, hlo]
    rw [hlo] at hz
    rw [hz]
    simp
  · have hz : ¬ following (low n false) = 0 := by rcases following_cases (low n false) with h | h | h | h | h <;> omega
    rw [readL_more _ _ _ (by rw [e1]; exact hs) (by omega) (by rw [e1]; exact hz), e1, e2]
    have ht : (be n (following (low n false)).toNat ++ behind).take (following (low n false)).toNat = be n (following (low n false)).toNat := List.take_left' (be_length _ _)
    rw [ht, join_be _ _ h0, Int.emod_eq_of_lt h0 hn]
    simp only [Prod.mk.injEq, true_and, and_true]
    omega

theorem shortest_back (m n : Int) (o : Bool) (ahead behind : List Int) (h : right m n o = true) (h0 : 0 ≤ n) (h1 : n ≤ 18446744073709551615) :
    shortest (ahead ++ bytes m n o ++ behind) ahead.length = true := by
  unfold shortest
  rw [read_back m n o ahead behind h h0 h1]
  simp only [size_bytes m n o h, BEq.rfl, Bool.true_and, beq_iff_eq]
  omega

theorem take_cons (y : Int) (r : List Int) (k : Nat) : (y :: r).take (k + 1) = y :: r.take k := rfl

theorem follow_le (k : Nat) (J : Int) (hk : k = 1 ∨ k = 2 ∨ k = 4 ∨ k = 8) (h : J < 2 ^ (8 * k)) : following (lowN J) ≤ k := by
  have hc : (k = 1 ∧ J < 256) ∨ (k = 2 ∧ J < 65536) ∨ (k = 4 ∧ J < 4294967296) ∨ k = 8 := by
    rcases hk with rfl | rfl | rfl | rfl
    · exact .inl ⟨rfl, h⟩
    · exact .inr (.inl ⟨rfl, h⟩)
    · exact .inr (.inr (.inl ⟨rfl, h⟩))
    · exact .inr (.inr (.inr rfl))
  have hcJ := following_cases (lowN J)
  have hlJ : (lowN J = J ∧ J < 24) ∨ (lowN J = 24 ∧ J < 256 ∧ 24 ≤ J) ∨ (lowN J = 25 ∧ J < 65536 ∧ 256 ≤ J) ∨ (lowN J = 26 ∧ J < 4294967296 ∧ 65536 ≤ J) ∨ (lowN J = 27 ∧ 4294967296 ≤ J) := by
    unfold lowN; (repeat' split) <;> omega
  omega
/-- Whatever is read, written again, is not longer; it is its own bytes just if it was written as short as may be. -/
theorem read_again (xs : List Int) (hx : St.bts xs) (m n : Int) (o : Bool) (j : Int) (h : read xs 0 = (m, n, o, j, 0)) :
    shortest xs 0 = decide (bytes m n o = xs.take j.toNat) ∧ ((bytes m n o).length : Int) ≤ j := by
  have hok := read_ok xs 0 hx m n o j h
  have hsh : shortest xs 0 = decide (((bytes m n o).length : Int) = j) := by
    unfold shortest
    rw [h]
    simp only [size_bytes m n o hok.2.2.2.1, BEq.rfl, Bool.true_and, Int.sub_zero]
    rw [Bool.eq_iff_iff]; simp; omega
  have hlen : ((bytes m n o).length : Int) = 1 + following (low n o) := by
    have hf := following_le (low n o)
    simp only [bytes, List.length_cons, be_length]; omega
  have key : ((bytes m n o).length : Int) ≤ j ∧ (((bytes m n o).length : Int) = j → bytes m n o = xs.take j.toNat) := by
    match xs, hx, h, hok with
    | [], _, h, hok => have := hok.2.2.1; have := hok.2.1; simp at *; omega
    | y :: r, hx, h, hok =>
      have hy := hx y (by simp)
      have hr : St.bts r := fun x hx' => hx x (by simp [hx'])
      have h' : readL (y :: r) 0 = (m, n, o, j, 0) := by rw [← h]; exact (read_in (y :: r) 0 (by simp)).symm
      have hf := following_cases (y % 32)
      by_cases s0 : r.length < (following (y % 32)).toNat
      · rw [readL_short _ _ _ s0] at h'
        simp at h'
      by_cases s1 : 27 < y % 32
      · rw [readL_open _ _ _ s0 s1] at h'
        unfold opened at h'
        split at h'
        · rename_i hc
          simp only [Prod.mk.injEq] at h'
          obtain ⟨rfl, rfl, rfl, rfl, _⟩ := h'
          have hb : bytes (y / 32) 0 true = [y] := by
            simp [bytes, low, following, be]
            omega
          rw [hb]
          exact ⟨by simp, fun _ => by simp⟩
        · simp at h'
      by_cases s2 : following (y % 32) = 0
      · rw [readL_low _ _ _ s1 s2] at h'
        simp only [Prod.mk.injEq] at h'
        obtain ⟨rfl, rfl, rfl, rfl, _⟩ := h'
        have hlo : low (y % 32) false = y % 32 := by simp only [low, Bool.false_eq_true, if_false, lowN]; rw [if_pos (by omega)]
        have hb : bytes (y / 32) (y % 32) false = [y] := by
          simp only [bytes, hlo, s2]
          simp [be]
          omega
        rw [hb]
        exact ⟨by simp, fun _ => by simp⟩
      · rw [readL_more _ _ _ s0 s1 s2] at h'
        simp only [Prod.mk.injEq] at h'
        obtain ⟨rfl, rfl, rfl, rfl, _⟩ := h'
        generalize hF : following (y % 32) = F at *
        obtain ⟨k, rfl⟩ := Int.eq_ofNat_of_zero_le (show 0 ≤ F by omega)
        simp only [Int.toNat_natCast] at *
        have htl : (r.take k).length = k := by simp; omega
        have htb : St.bts (r.take k) := fun x hx' => hr x (List.mem_of_mem_take hx')
        have hj := join_lt (r.take k) htb k (by omega)
        rw [pow_256] at hj
        have hfn := follow_le k (join (r.take k)) (by omega) hj.2
        have hln : ((bytes (y / 32) (join (r.take k)) false).length : Int) = 1 + following (lowN (join (r.take k))) := by
          have := following_le (lowN (join (r.take k)))
          simp only [bytes, low, Bool.false_eq_true, if_false, List.length_cons, be_length]; omega
        refine ⟨by rw [hln]; omega, fun he => ?_⟩
        have hfe : following (lowN (join (r.take k))) = k := by omega
        have hle : lowN (join (r.take k)) = y % 32 := by
          have hcJ := following_cases (lowN (join (r.take k)))
          omega
        have hb := be_join (r.take k) htb
        rw [htl] at hb
        simp only [bytes, low, Bool.false_eq_true, if_false, hfe, Int.toNat_natCast, hb]
        rw [hle, show ((0 : Int) + 1 + (k : Int)).toNat = k + 1 by omega, take_cons]
        congr 1
        omega
  refine ⟨?_, key.1⟩
  rw [hsh, decide_eq_decide]
  constructor
  · exact key.2
  · intro he
    have hl := congrArg List.length he
    rw [List.length_take] at hl
    have := hok.2.1
    have := hok.2.2.1
    omega
theorem opened_shift (m l i : Int) : opened m l i = ((opened m l 0).1, (opened m l 0).2.1, (opened m l 0).2.2.1, (if (opened m l 0).2.2.2.2 = 0 then (opened m l 0).2.2.2.1 + i else 0), (opened m l 0).2.2.2.2) := by
  unfold opened
  split <;> simp; omega
theorem readL_shift (l : List Int) (i : Int) : readL l i = ((readL l 0).1, (readL l 0).2.1, (readL l 0).2.2.1, (if (readL l 0).2.2.2.2 = 0 then (readL l 0).2.2.2.1 + i else 0), (readL l 0).2.2.2.2) := by
  match l with
  | [] => simp [readL]
  | y :: r =>
    by_cases s0 : r.length < (following (y % 32)).toNat
    · rw [readL_short _ _ _ s0, readL_short _ _ _ s0]; simp
    by_cases s1 : 27 < y % 32
    · rw [readL_open _ _ _ s0 s1, readL_open _ _ _ s0 s1]; exact opened_shift _ _ _
    by_cases s2 : following (y % 32) = 0
    · rw [readL_low _ _ _ s1 s2, readL_low _ _ _ s1 s2]; simp; omega
    · rw [readL_more _ _ _ s0 s1 s2, readL_more _ _ _ s0 s1 s2]; simp; omega
theorem read_drop (xs : List Int) (k : Nat) (hk : k ≤ xs.length) (m n : Int) (o : Bool) (j : Int) (h : read xs k = (m, n, o, j, 0)) : read (xs.drop k) 0 = (m, n, o, j - k, 0) := by
  rw [read_in _ _ hk, readL_shift] at h
  have h0 := read_in (xs.drop k) 0 (by omega)
  simp only [List.drop_zero] at h0
  rw [show ((0 : Nat) : Int) = 0 from rfl] at h0
  rw [h0]
  generalize readL (xs.drop k) 0 = t at *
  obtain ⟨a, b, c, d, e⟩ := t
  simp only [Prod.mk.injEq] at h
  obtain ⟨rfl, rfl, rfl, hd, rfl⟩ := h
  simp at hd
  simp
  omega
/-- The same at any place. -/
theorem read_again_at (xs : List Int) (hx : St.bts xs) (k : Nat) (m n : Int) (o : Bool) (j : Nat) (h : read xs k = (m, n, o, (j : Int), 0)) :
    shortest xs k = decide (bytes m n o = (xs.drop k).take (j - k)) := by
  have hok := read_ok xs k hx m n o j h
  have hd := read_drop xs k (by omega) m n o j h
  have ha := (read_again (xs.drop k) (fun x hx' => hx x (List.mem_of_mem_drop hx')) m n o _ hd).1
  rw [show ((j : Int) - (k : Int)).toNat = j - k by omega] at ha
  rw [← ha]
  unfold shortest
  rw [h, hd]
  simp
end Go.Proofs.YthknkdphofjmhaaDoor.HeadP
/- How an item is read: what happens, step by step, as a relation; it is of one outcome. Plain: no program is named here. -/
namespace Go.Proofs.YthknkdphofjmhaaDoor.Cb

/-- What comes: something, the place behind it, and how many items may still begin; or an error. -/
inductive Res (α : Type) where
  | ok (a : α) (at_ left : Int)
  | err (e : Int)

/-- The end of what is open. -/
def ends (m n : Int) (o : Bool) : Bool := m == 7 && n == 0 && o
def mayBe (m : Int) : Prop := m = 0 ∨ m = 2 ∨ m = 3 ∨ m = 4
/-- So many bytes from a place on. -/
def chunk (xs : List Int) (p n : Int) : List Int := (xs.drop p.toNat).take n.toNat
/-- A piece of bytes or of a text. -/
def piece (xs acc : List Int) (m n p left : Int) : Res (List Int) :=
  if (xs.length : Int) - p < n then .err 8 else if m = 3 ∧ U8.utf8 (chunk xs p n) = false then .err 3 else .ok (acc ++ chunk xs p n) (p + n) left

/-- Pieces till the end. -/
inductive ChunksR (xs : List Int) (m left : Int) : List Int → Int → Res (List Int) → Prop
  | bad {acc p a n o j e} (h : HeadP.read xs p = (a, n, o, j, e)) (he : e ≠ 0) : ChunksR xs m left acc p (.err e)
  | stop {acc p a n o j} (h : HeadP.read xs p = (a, n, o, j, 0)) (he : ends a n o = true) : ChunksR xs m left acc p (.ok acc j left)
  | form {acc p a n o j} (h : HeadP.read xs p = (a, n, o, j, 0)) (he : ends a n o = false) (hf : o = true ∨ a ≠ m) : ChunksR xs m left acc p (.err 3)
  | cut {acc p n j e} (h : HeadP.read xs p = (m, n, false, j, 0)) (hp : piece xs acc m n j left = .err e) : ChunksR xs m left acc p (.err e)
  | more {acc p n j acc' j' l' r} (h : HeadP.read xs p = (m, n, false, j, 0)) (hp : piece xs acc m n j left = .ok acc' j' l') (hr : ChunksR xs m left acc' j' r) : ChunksR xs m left acc p r
/-- Bytes or a text behind its head. -/
def BodyR (xs : List Int) (m n : Int) (o : Bool) (p left : Int) (r : Res (List Int)) : Prop :=
  if o = true then ChunksR xs m left [] p r else piece xs [] m n p left = r

mutual
/-- An item behind its head. -/
inductive ItemR (xs : List Int) : Nat → Int → Int → Bool → Int → Int → Res Itm → Prop
  | form {d m n o p left} (h : ¬ mayBe m) : ItemR xs d m n o p left (.err 3)
  | deep {d m n o p left} (h : mayBe m) (hd : 6 < d) : ItemR xs d m n o p left (.err 9)
  | long {d m n o p} (h : mayBe m) (hd : d ≤ 6) : ItemR xs d m n o p 0 (.err 2)
  | num {d n o p left} (hd : d ≤ 6) (hl : left ≠ 0) : ItemR xs d 0 n o p left (.ok (.mk 0 n [] []) p (left - 1))
  | body {d m n o p left b p' l'} (h : m = 2 ∨ m = 3) (hd : d ≤ 6) (hl : left ≠ 0) (hb : BodyR xs m n o p (left - 1) (.ok b p' l')) : ItemR xs d m n o p left (.ok (.mk m 0 b []) p' l')
  | bodyE {d m n o p left e} (h : m = 2 ∨ m = 3) (hd : d ≤ 6) (hl : left ≠ 0) (hb : BodyR xs m n o p (left - 1) (.err e)) : ItemR xs d m n o p left (.err e)
  | open_ {d n p left l p' l'} (hd : d ≤ 6) (hl : left ≠ 0) (hb : OpenR xs d [] p (left - 1) (.ok l p' l')) : ItemR xs d 4 n true p left (.ok (.mk 4 0 [] l) p' l')
  | openE {d n p left e} (hd : d ≤ 6) (hl : left ≠ 0) (hb : OpenR xs d [] p (left - 1) (.err e)) : ItemR xs d 4 n true p left (.err e)
  | need {d n p left} (hd : d ≤ 6) (hl : left ≠ 0) (hn : (xs.length : Int) - p < n) : ItemR xs d 4 n false p left (.err 8)
  | many {d n p left l p' l'} (hd : d ≤ 6) (hl : left ≠ 0) (hn : ¬ (xs.length : Int) - p < n) (hb : ManyR xs d n.toNat [] p (left - 1) (.ok l p' l')) : ItemR xs d 4 n false p left (.ok (.mk 4 0 [] l) p' l')
  | manyE {d n p left e} (hd : d ≤ 6) (hl : left ≠ 0) (hn : ¬ (xs.length : Int) - p < n) (hb : ManyR xs d n.toNat [] p (left - 1) (.err e)) : ItemR xs d 4 n false p left (.err e)
/-- So many items. -/
inductive ManyR (xs : List Int) : Nat → Nat → List Itm → Int → Int → Res (List Itm) → Prop
  | done {d acc p left} : ManyR xs d 0 acc p left (.ok acc p left)
  | bad {d k acc p left m n o j e} (h : HeadP.read xs p = (m, n, o, j, e)) (he : e ≠ 0) : ManyR xs d (k + 1) acc p left (.err e)
  | cut {d k acc p left m n o j e} (h : HeadP.read xs p = (m, n, o, j, 0)) (hi : ItemR xs (d + 1) m n o j left (.err e)) : ManyR xs d (k + 1) acc p left (.err e)
  | more {d k acc p left m n o j x p' l' r} (h : HeadP.read xs p = (m, n, o, j, 0)) (hi : ItemR xs (d + 1) m n o j left (.ok x p' l')) (hr : ManyR xs d k (acc ++ [x]) p' l' r) : ManyR xs d (k + 1) acc p left r
/-- Items till the end. -/
inductive OpenR (xs : List Int) : Nat → List Itm → Int → Int → Res (List Itm) → Prop
  | bad {d acc p left m n o j e} (h : HeadP.read xs p = (m, n, o, j, e)) (he : e ≠ 0) : OpenR xs d acc p left (.err e)
  | stop {d acc p left m n o j} (h : HeadP.read xs p = (m, n, o, j, 0)) (he : ends m n o = true) : OpenR xs d acc p left (.ok acc j left)
  | cut {d acc p left m n o j e} (h : HeadP.read xs p = (m, n, o, j, 0)) (he : ends m n o = false) (hi : ItemR xs (d + 1) m n o j left (.err e)) : OpenR xs d acc p left (.err e)
  | more {d acc p left m n o j x p' l' r} (h : HeadP.read xs p = (m, n, o, j, 0)) (he : ends m n o = false) (hi : ItemR xs (d + 1) m n o j left (.ok x p' l')) (hr : OpenR xs d (acc ++ [x]) p' l' r) : OpenR xs d acc p left r
end
/-- The item at a place. -/
inductive ReadR (xs : List Int) (p : Int) : Res Itm → Prop
  | bad {m n o j e} (h : HeadP.read xs p = (m, n, o, j, e)) (he : e ≠ 0) : ReadR xs p (.err e)
  | item {m n o j r} (h : HeadP.read xs p = (m, n, o, j, 0)) (hi : ItemR xs 1 m n o j 256 r) : ReadR xs p r

theorem hd_inj {xs : List Int} {p m n j e m' n' j' e' : Int} {o o' : Bool} (h : HeadP.read xs p = (m, n, o, j, e)) (h' : HeadP.read xs p = (m', n', o', j', e')) : m = m' ∧ n = n' ∧ o = o' ∧ j = j' ∧ e = e' := by
  rw [h] at h'
  simpa using h'

theorem chunks_det {xs : List Int} {m left : Int} : ∀ {acc : List Int} {p : Int} {r r' : Res (List Int)}, ChunksR xs m left acc p r → ChunksR xs m left acc p r' → r = r' := by
  intro acc p r r' h
  induction h with
  | bad h he =>
    intro h'
    cases h' with
    | bad h2 he2 => obtain ⟨_, _, _, rfl, rfl⟩ := hd_inj h h2; rfl
    | stop h2 _ => exact absurd (hd_inj h h2).2.2.2.2 (by omega)
    | form h2 _ _ => exact absurd (hd_inj h h2).2.2.2.2 (by omega)
    | cut h2 _ => exact absurd (hd_inj h h2).2.2.2.2 (by omega)
    | more h2 _ _ => exact absurd (hd_inj h h2).2.2.2.2 (by omega)
  | stop h he =>
    intro h'
    cases h' with
    | bad h2 he2 => exact absurd (hd_inj h h2).2.2.2.2 (by omega)
    | stop h2 _ => obtain ⟨_, _, _, rfl, _⟩ := hd_inj h h2; rfl
    | form h2 he2 _ => obtain ⟨rfl, rfl, rfl, rfl, _⟩ := hd_inj h h2; rw [he] at he2; cases he2
    | cut h2 _ => obtain ⟨rfl, rfl, rfl, rfl, _⟩ := hd_inj h h2; simp [ends] at he
    | more h2 _ _ => obtain ⟨rfl, rfl, rfl, rfl, _⟩ := hd_inj h h2; simp [ends] at he
  | form h he hf =>
    intro h'
    cases h' with
    | bad h2 he2 => exact absurd (hd_inj h h2).2.2.2.2 (by omega)
    | stop h2 he2 => obtain ⟨rfl, rfl, rfl, rfl, _⟩ := hd_inj h h2; rw [he] at he2; cases he2
    | form h2 he2 _ => rfl
    | cut h2 _ => obtain ⟨rfl, rfl, rfl, rfl, _⟩ := hd_inj h h2; simp at hf
    | more h2 _ _ => obtain ⟨rfl, rfl, rfl, rfl, _⟩ := hd_inj h h2; simp at hf
  | cut h hp =>
    intro h'
    cases h' with
    | bad h2 he2 => exact absurd (hd_inj h h2).2.2.2.2 (by omega)
    | stop h2 he2 => obtain ⟨rfl, rfl, rfl, rfl, _⟩ := hd_inj h h2; simp [ends] at he2
    | form h2 he2 hf => obtain ⟨rfl, rfl, rfl, rfl, _⟩ := hd_inj h h2; simp at hf
    | cut h2 hp2 => obtain ⟨_, rfl, _, rfl, _⟩ := hd_inj h h2; rw [hp] at hp2; exact congrArg _ (by injection hp2)
    | more h2 hp2 _ => obtain ⟨_, rfl, _, rfl, _⟩ := hd_inj h h2; rw [hp] at hp2; cases hp2
  | more h hp hr ih =>
    intro h'
    cases h' with
    | bad h2 he2 => exact absurd (hd_inj h h2).2.2.2.2 (by omega)
    | stop h2 he2 => obtain ⟨rfl, rfl, rfl, rfl, _⟩ := hd_inj h h2; simp [ends] at he2
    | form h2 he2 hf => obtain ⟨rfl, rfl, rfl, rfl, _⟩ := hd_inj h h2; simp at hf
    | cut h2 hp2 => obtain ⟨_, rfl, _, rfl, _⟩ := hd_inj h h2; rw [hp] at hp2; cases hp2
    | more h2 hp2 hr2 =>
      obtain ⟨_, rfl, _, rfl, _⟩ := hd_inj h h2
      rw [hp] at hp2
      injection hp2 with e1 e2 e3
      subst e1 e2 e3
      exact ih hr2
theorem chunks_left {xs : List Int} {m left : Int} : ∀ {acc : List Int} {p : Int} {r : Res (List Int)}, ChunksR xs m left acc p r → ∀ {b : List Int} {p' l' : Int}, r = .ok b p' l' → l' = left := by
  intro acc p r h
  induction h with
  | bad _ _ => intro b p' l' e; cases e
  | stop _ _ => intro b p' l' e; injection e with _ _ e; exact e.symm
  | form _ _ _ => intro b p' l' e; cases e
  | cut _ _ => intro b p' l' e; cases e
  | more _ _ _ ih => exact ih
theorem body_det {xs : List Int} {m n p left : Int} {o : Bool} {r r' : Res (List Int)} (h : BodyR xs m n o p left r) (h' : BodyR xs m n o p left r') : r = r' := by
  unfold BodyR at h h'
  cases o
  · simp at h h'; rw [← h, ← h']
  · simp at h h'; exact chunks_det h h'

theorem mb0 : mayBe 0 := .inl rfl
theorem mb4 : mayBe 4 := .inr (.inr (.inr rfl))
theorem mb23 {m : Int} (h : m = 2 ∨ m = 3) : mayBe m := by rcases h with h | h <;> simp [mayBe, h]
mutual
theorem item_det {xs : List Int} : ∀ {d : Nat} {m n : Int} {o : Bool} {p left : Int} {r r' : Res Itm}, ItemR xs d m n o p left r → ItemR xs d m n o p left r' → r = r'
  | _, _, _, _, _, _, _, _, .form h, h' => by
    cases h' with
    | form _ => rfl
    | deep h2 _ => exact absurd h2 h
    | long h2 _ => exact absurd h2 h
    | num _ _ => exact absurd mb0 h
    | body h2 _ _ _ => exact absurd (mb23 h2) h
    | bodyE h2 _ _ _ => exact absurd (mb23 h2) h
    | open_ _ _ _ => exact absurd mb4 h
    | openE _ _ _ => exact absurd mb4 h
    | need _ _ _ => exact absurd mb4 h
    | many _ _ _ _ => exact absurd mb4 h
    | manyE _ _ _ _ => exact absurd mb4 h
  | _, _, _, _, _, _, _, _, .deep h hd, h' => by
    cases h' with
    | form h2 => exact absurd h h2
    | deep _ _ => rfl
    | _ => omega
  | _, _, _, _, _, _, _, _, .long h hd, h' => by
    cases h' with
    | form h2 => exact absurd h h2
    | deep _ _ => omega
    | long _ _ => rfl
    | num _ hl => exact absurd rfl hl
    | body _ _ hl _ => exact absurd rfl hl
    | bodyE _ _ hl _ => exact absurd rfl hl
    | open_ _ hl _ => exact absurd rfl hl
    | openE _ hl _ => exact absurd rfl hl
    | need _ hl _ => exact absurd rfl hl
    | many _ hl _ _ => exact absurd rfl hl
    | manyE _ hl _ _ => exact absurd rfl hl
  | _, _, _, _, _, _, _, _, .num hd hl, h' => by
    cases h' with
    | form h2 => exact absurd mb0 h2
    | deep _ _ => omega
    | long _ _ => exact absurd rfl hl
    | num _ _ => rfl
    | body h2 _ _ _ => omega
    | bodyE h2 _ _ _ => omega
  | _, _, _, _, _, _, _, _, .body h hd hl hb, h' => by
    cases h' with
    | form h2 => exact absurd (mb23 h) h2
    | deep _ _ => omega
    | long _ _ => exact absurd rfl hl
    | num _ _ => omega
    | body h2 _ _ hb2 => have := body_det hb hb2; injection this with e1 e2 e3; rw [e1, e2, e3]
    | bodyE h2 _ _ hb2 => have := body_det hb hb2; cases this
    | _ => omega
  | _, _, _, _, _, _, _, _, .bodyE h hd hl hb, h' => by
    cases h' with
    | form h2 => exact absurd (mb23 h) h2
    | deep _ _ => omega
    | long _ _ => exact absurd rfl hl
    | num _ _ => omega
    | body h2 _ _ hb2 => have := body_det hb hb2; cases this
    | bodyE h2 _ _ hb2 => have := body_det hb hb2; injection this with e1; rw [e1]
    | _ => omega
  | _, _, _, _, _, _, _, _, .open_ hd hl hb, h' => by
    cases h' with
    | form h2 => exact absurd mb4 h2
    | deep _ _ => omega
    | long _ _ => exact absurd rfl hl
    | body h2 _ _ _ => omega
    | bodyE h2 _ _ _ => omega
    | open_ _ _ hb2 => have := open_det hb hb2; injection this with e1 e2 e3; rw [e1, e2, e3]
    | openE _ _ hb2 => have := open_det hb hb2; cases this
  | _, _, _, _, _, _, _, _, .openE hd hl hb, h' => by
    cases h' with
    | form h2 => exact absurd mb4 h2
    | deep _ _ => omega
    | long _ _ => exact absurd rfl hl
    | body h2 _ _ _ => omega
    | bodyE h2 _ _ _ => omega
    | open_ _ _ hb2 => have := open_det hb hb2; cases this
    | openE _ _ hb2 => have := open_det hb hb2; injection this with e1; rw [e1]
  | _, _, _, _, _, _, _, _, .need hd hl hn, h' => by
    cases h' with
    | form h2 => exact absurd mb4 h2
    | deep _ _ => omega
    | long _ _ => exact absurd rfl hl
    | body h2 _ _ _ => omega
    | bodyE h2 _ _ _ => omega
    | need _ _ _ => rfl
    | many _ _ hn2 _ => exact absurd hn hn2
    | manyE _ _ hn2 _ => exact absurd hn hn2
  | _, _, _, _, _, _, _, _, .many hd hl hn hb, h' => by
    cases h' with
    | form h2 => exact absurd mb4 h2
    | deep _ _ => omega
    | long _ _ => exact absurd rfl hl
    | body h2 _ _ _ => omega
    | bodyE h2 _ _ _ => omega
    | need _ _ hn2 => exact absurd hn2 hn
    | many _ _ _ hb2 => have := many_det hb hb2; injection this with e1 e2 e3; rw [e1, e2, e3]
    | manyE _ _ _ hb2 => have := many_det hb hb2; cases this
  | _, _, _, _, _, _, _, _, .manyE hd hl hn hb, h' => by
    cases h' with
    | form h2 => exact absurd mb4 h2
    | deep _ _ => omega
    | long _ _ => exact absurd rfl hl
    | body h2 _ _ _ => omega
    | bodyE h2 _ _ _ => omega
    | need _ _ hn2 => exact absurd hn2 hn
    | many _ _ _ hb2 => have := many_det hb hb2; cases this
    | manyE _ _ _ hb2 => have := many_det hb hb2; injection this with e1; rw [e1]
theorem many_det {xs : List Int} : ∀ {d k : Nat} {acc : List Itm} {p left : Int} {r r' : Res (List Itm)}, ManyR xs d k acc p left r → ManyR xs d k acc p left r' → r = r'
  | _, _, _, _, _, _, _, .done, h' => by cases h'; rfl
  | _, _, _, _, _, _, _, .bad h he, h' => by
    cases h' with
    | bad h2 _ => obtain ⟨_, _, _, _, rfl⟩ := hd_inj h h2; rfl
    | cut h2 _ => exact absurd (hd_inj h h2).2.2.2.2 (by omega)
    | more h2 _ _ => exact absurd (hd_inj h h2).2.2.2.2 (by omega)
  | _, _, _, _, _, _, _, .cut h hi, h' => by
    cases h' with
    | bad h2 _ => exact absurd (hd_inj h h2).2.2.2.2 (by omega)
    | cut h2 hi2 => obtain ⟨rfl, rfl, rfl, rfl, _⟩ := hd_inj h h2; have := item_det hi hi2; injection this with e1; rw [e1]
    | more h2 hi2 _ => obtain ⟨rfl, rfl, rfl, rfl, _⟩ := hd_inj h h2; have := item_det hi hi2; cases this
  | _, _, _, _, _, _, _, .more h hi hr, h' => by
    cases h' with
    | bad h2 _ => exact absurd (hd_inj h h2).2.2.2.2 (by omega)
    | cut h2 hi2 => obtain ⟨rfl, rfl, rfl, rfl, _⟩ := hd_inj h h2; have := item_det hi hi2; cases this
    | more h2 hi2 hr2 => obtain ⟨rfl, rfl, rfl, rfl, _⟩ := hd_inj h h2; have := item_det hi hi2; injection this with e1 e2 e3; subst e1 e2 e3; exact many_det hr hr2
theorem open_det {xs : List Int} : ∀ {d : Nat} {acc : List Itm} {p left : Int} {r r' : Res (List Itm)}, OpenR xs d acc p left r → OpenR xs d acc p left r' → r = r'
  | _, _, _, _, _, _, .bad h he, h' => by
    cases h' with
    | bad h2 _ => obtain ⟨_, _, _, _, rfl⟩ := hd_inj h h2; rfl
    | stop h2 _ => exact absurd (hd_inj h h2).2.2.2.2 (by omega)
    | cut h2 _ _ => exact absurd (hd_inj h h2).2.2.2.2 (by omega)
    | more h2 _ _ _ => exact absurd (hd_inj h h2).2.2.2.2 (by omega)
  | _, _, _, _, _, _, .stop h he, h' => by
    cases h' with
    | bad h2 _ => exact absurd (hd_inj h h2).2.2.2.2 (by omega)
    | stop h2 _ => obtain ⟨_, _, _, rfl, _⟩ := hd_inj h h2; rfl
    | cut h2 he2 _ => obtain ⟨rfl, rfl, rfl, rfl, _⟩ := hd_inj h h2; rw [he] at he2; cases he2
    | more h2 he2 _ _ => obtain ⟨rfl, rfl, rfl, rfl, _⟩ := hd_inj h h2; rw [he] at he2; cases he2
  | _, _, _, _, _, _, .cut h he hi, h' => by
    cases h' with
    | bad h2 _ => exact absurd (hd_inj h h2).2.2.2.2 (by omega)
    | stop h2 he2 => obtain ⟨rfl, rfl, rfl, rfl, _⟩ := hd_inj h h2; rw [he] at he2; cases he2
    | cut h2 _ hi2 => obtain ⟨rfl, rfl, rfl, rfl, _⟩ := hd_inj h h2; have := item_det hi hi2; injection this with e1; rw [e1]
    | more h2 _ hi2 _ => obtain ⟨rfl, rfl, rfl, rfl, _⟩ := hd_inj h h2; have := item_det hi hi2; cases this
  | _, _, _, _, _, _, .more h he hi hr, h' => by
    cases h' with
    | bad h2 _ => exact absurd (hd_inj h h2).2.2.2.2 (by omega)
    | stop h2 he2 => obtain ⟨rfl, rfl, rfl, rfl, _⟩ := hd_inj h h2; rw [he] at he2; cases he2
    | cut h2 _ hi2 => obtain ⟨rfl, rfl, rfl, rfl, _⟩ := hd_inj h h2; have := item_det hi hi2; cases this
    | more h2 _ hi2 hr2 => obtain ⟨rfl, rfl, rfl, rfl, _⟩ := hd_inj h h2; have := item_det hi hi2; injection this with e1 e2 e3; subst e1 e2 e3; exact open_det hr hr2
end
theorem read_det {xs : List Int} {p : Int} {r r' : Res Itm} (h : ReadR xs p r) (h' : ReadR xs p r') : r = r' := by
  cases h with
  | bad h he =>
    cases h' with
    | bad h2 _ => obtain ⟨_, _, _, _, rfl⟩ := hd_inj h h2; rfl
    | item h2 _ => exact absurd (hd_inj h h2).2.2.2.2 (by omega)
  | item h hi =>
    cases h' with
    | bad h2 _ => exact absurd (hd_inj h h2).2.2.2.2 (by omega)
    | item h2 hi2 => obtain ⟨rfl, rfl, rfl, rfl, _⟩ := hd_inj h h2; exact item_det hi hi2
end Go.Proofs.YthknkdphofjmhaaDoor.Cb
/- What is read is right, and written again not longer: plain. No program is named here. -/
namespace Go.Proofs.YthknkdphofjmhaaDoor.U8

theorem pt_append (a b : List Int) (ha : a ≠ []) (h : pt a ≠ 0) : pt (a ++ b) = pt a ∧ pt a ≤ a.length := by
  obtain ⟨x, r, rfl⟩ := List.exists_cons_of_ne_nil ha
  have h0 : ((x :: r) ++ b).getD 0 0 = x := by simp
  have h0' : (x :: r).getD 0 0 = x := by simp
  unfold pt at h ⊢
  rw [h0'] at h
  rw [h0, h0']
  by_cases hx : x < 128
  · simp [hx]
  · rw [if_neg hx] at h ⊢
    rw [if_neg hx]
    by_cases hb : bad (x :: r)
    · rw [if_pos hb] at h
      exact absurd rfl h
    · rw [if_neg hb] at h ⊢
      have hb' := hb
      unfold bad at hb
      simp only [h0', not_or] at hb
      obtain ⟨c0, c1, c2, c3, c4, c5⟩ := hb
      have hg : ∀ j, j < (x :: r).length → ((x :: r) ++ b).getD j 0 = (x :: r).getD j 0 := fun j hj => by
        simp only [List.getD]
        rw [List.getElem?_append_left hj]
      have hcc := cnt_cases x
      have hlen : 2 ≤ (x :: r).length := by omega
      have hnb : ¬ bad ((x :: r) ++ b) := by
        unfold bad
        rw [h0, hg 1 (by omega)]
        simp only [not_or]
        refine ⟨c0, by rw [List.length_append]; omega, c2, c3, ?_, ?_⟩
        · rintro ⟨h3, h4⟩
          rw [hg 2 (by omega)] at h4
          exact c4 ⟨h3, h4⟩
        · rintro ⟨h3, h4⟩
          rw [hg 3 (by omega)] at h4
          exact c5 ⟨h3, h4⟩
      rw [if_neg hnb]
      exact ⟨rfl, by omega⟩
theorem utf8_append (n : Nat) : ∀ a b : List Int, a.length ≤ n → utf8 a = true → utf8 (a ++ b) = utf8 b := by
  induction n with
  | zero =>
    intro a b hn _
    obtain rfl : a = [] := List.eq_nil_of_length_eq_zero (by omega)
    rfl
  | succ n ih =>
    intro a b hn h
    by_cases ha : a = []
    · subst ha; rfl
    · rw [utf8_step a ha] at h
      by_cases hp : pt a = 0
      · rw [if_pos hp] at h; cases h
      · rw [if_neg hp] at h
        obtain ⟨h1, h2⟩ := pt_append a b ha hp
        rw [utf8_step (a ++ b) (by simp [ha]), h1, if_neg hp, List.drop_append_of_le_length h2]
        refine ih _ b ?_ h
        rw [List.length_drop]
        have : 0 < pt a := Nat.pos_of_ne_zero hp
        omega
end Go.Proofs.YthknkdphofjmhaaDoor.U8
namespace Go.Proofs.YthknkdphofjmhaaDoor.Cb

/-- How many bytes a head has. -/
def hl (m n : Int) (o : Bool) : Int := (HeadP.bytes m n o).length
theorem hl_eq (m n : Int) (o : Bool) : hl m n o = 1 + HeadP.following (HeadP.low n o) := by
  have := HeadP.following_le (HeadP.low n o)
  unfold hl HeadP.bytes
  rw [List.length_cons, HeadP.be_length]
  omega
theorem hl_closed (m n : Int) (h0 : 0 ≤ n) : (n < 24 ∧ hl m n false = 1) ∨ (24 ≤ n ∧ n < 256 ∧ hl m n false = 2) ∨ (256 ≤ n ∧ n < 65536 ∧ hl m n false = 3) ∨ (65536 ≤ n ∧ n < 4294967296 ∧ hl m n false = 5) ∨ (4294967296 ≤ n ∧ hl m n false = 9) := by
  rw [hl_eq]
  unfold HeadP.low HeadP.lowN HeadP.following
  simp only [Bool.false_eq_true, if_false]
  (repeat' split) <;> omega
theorem hl_pos (m n : Int) (o : Bool) : 1 ≤ hl m n o := by
  rw [hl_eq]
  have := HeadP.following_le (HeadP.low n o)
  omega
/-- What is read as a head. -/
theorem hd_fact {xs : List Int} (hx : St.bts xs) {p m n j : Int} {o : Bool} (h : HeadP.read xs p = (m, n, o, j, 0)) : 0 ≤ p ∧ p < j ∧ p + hl m n o ≤ j ∧ j ≤ xs.length ∧ 0 ≤ n ∧ n ≤ 18446744073709551615 ∧ HeadP.right m n o = true := by
  have hok := HeadP.read_ok xs p hx m n o j h
  obtain ⟨k, rfl⟩ := Int.eq_ofNat_of_zero_le hok.1
  have hd := HeadP.read_drop xs k (by omega) m n o j h
  have ha := (HeadP.read_again (xs.drop k) (fun x hx' => hx x (List.mem_of_mem_drop hx')) m n o _ hd).2
  unfold hl
  exact ⟨hok.1, hok.2.1, by omega, hok.2.2.1, hok.2.2.2.2.1, hok.2.2.2.2.2, hok.2.2.2.1⟩

mutual
/-- Numbers and bytes are within their bounds. -/
def sane : Itm → Prop
  | .mk _ n b l => (0 ≤ n ∧ n ≤ 18446744073709551615) ∧ St.bts b ∧ sanes l
def sanes : List Itm → Prop
  | [] => True
  | x :: l => sane x ∧ sanes l
end
theorem sanes_append : ∀ (l m : List Itm), sanes (l ++ m) ↔ sanes l ∧ sanes m
  | [], m => by simp [sanes]
  | x :: l, m => by simp [sanes, sanes_append l m, and_assoc]

/-- A measure of a number: one, two, three or four. -/
def gg (n : Int) : Int := if n < 24 then 1 else if n < 256 then 2 else if n < 65536 then 3 else 4
theorem gg_cases (n : Int) : (n < 24 ∧ gg n = 1) ∨ (24 ≤ n ∧ n < 256 ∧ gg n = 2) ∨ (256 ≤ n ∧ n < 65536 ∧ gg n = 3) ∨ (65536 ≤ n ∧ gg n = 4) := by
  unfold gg; (repeat' split) <;> omega
theorem gg_add (a n : Int) (ha : 0 ≤ a) (hn : 0 ≤ n) : gg (a + n) ≤ gg a + gg n := by
  have h1 := gg_cases a
  have h2 := gg_cases n
  have h3 := gg_cases (a + n)
  omega
theorem gg_le (m n : Int) (h : 0 ≤ n) : gg n ≤ hl m n false := by
  have h1 := gg_cases n
  have h2 := hl_closed m n h
  omega
theorem hl_le_gg (m n : Int) (h : 0 ≤ n) (h2 : n < 4294967296) : hl m n false ≤ gg n + 1 := by
  have h1 := gg_cases n
  have h2 := hl_closed m n h
  omega

theorem chunk_len (xs : List Int) (p n : Int) (hp : 0 ≤ p) (hn : 0 ≤ n) (h : ¬ (xs.length : Int) - p < n) : ((chunk xs p n).length : Int) = n := by
  unfold chunk
  simp
  omega
theorem chunk_bt (xs : List Int) (p n : Int) (h : St.bts xs) : St.bts (chunk xs p n) := fun x hx => h x (List.mem_of_mem_drop (List.mem_of_mem_take hx))

/-- A piece that is there. -/
theorem piece_fact {xs acc b : List Int} {m n p left p' l' : Int} (hx : St.bts xs) (hp : 0 ≤ p) (hn : 0 ≤ n) (h : piece xs acc m n p left = .ok b p' l') :
    p' = p + n ∧ l' = left ∧ p' ≤ xs.length ∧ b = acc ++ chunk xs p n ∧ ((chunk xs p n).length : Int) = n ∧ (m = 3 → U8.utf8 (chunk xs p n) = true) := by
  unfold piece at h
  split at h
  · cases h
  · rename_i h1
    split at h
    · cases h
    · rename_i h2
      injection h with e1 e2 e3
      refine ⟨e2.symm, e3.symm, by omega, e1.symm, chunk_len xs p n hp hn h1, fun hm => ?_⟩
      cases hu : U8.utf8 (chunk xs p n)
      · exact absurd ⟨hm, hu⟩ h2
      · rfl

theorem chunks_good {xs : List Int} (hx : St.bts xs) {m left : Int} : ∀ {acc : List Int} {p : Int} {r : Res (List Int)}, ChunksR xs m left acc p r → ∀ {b : List Int} {p' l' : Int}, r = .ok b p' l' → St.bts acc → (m = 3 → U8.utf8 acc = true) →
    l' = left ∧ p < p' ∧ p' ≤ xs.length ∧ St.bts b ∧ (m = 3 → U8.utf8 b = true) ∧ gg b.length + b.length + p + 1 ≤ p' + gg acc.length + acc.length := by
  intro acc p r h
  induction h with
  | bad _ _ => intro b p' l' e; cases e
  | stop h _ =>
    intro b p' l' e hb hu
    injection e with e1 e2 e3
    subst e1 e2 e3
    have hf := hd_fact hx h
    exact ⟨rfl, hf.2.1, hf.2.2.2.1, hb, hu, by omega⟩
  | form _ _ _ => intro b p' l' e; cases e
  | cut _ _ => intro b p' l' e; cases e
  | @more ac q n j ac2 j2 l2 r h hp _ ih =>
    intro b p' l' e hb hu
    have hf := hd_fact hx h
    obtain ⟨rfl, rfl, h3, rfl, h5, h6⟩ := piece_fact hx (by omega) hf.2.2.2.2.1 hp
    obtain ⟨rfl, q2, q3, q4, q5, q6⟩ := ih e (fun x hx' => by
      rcases List.mem_append.1 hx' with h' | h'
      · exact hb x h'
      · exact chunk_bt xs _ _ hx x h') (fun hm => by rw [U8.utf8_append _ _ _ (Nat.le_refl _) (hu hm)]; exact h6 hm)
    refine ⟨rfl, by omega, q3, q4, q5, ?_⟩
    rw [List.length_append] at q6
    have ha := gg_add (ac.length : Int) n (by omega) hf.2.2.2.2.1
    have hg := gg_le m n hf.2.2.2.2.1
    rw [Int.natCast_add, h5] at q6
    omega

/-- Bytes or a text that was read. -/
theorem body_good {xs : List Int} (hx : St.bts xs) {m n p left p' l' : Int} {o : Bool} {b : List Int} (hp : 0 ≤ p) (hpx : p ≤ xs.length) (hn : 0 ≤ n) (hlen : xs.length ≤ 4294967295) (h : BodyR xs m n o p left (.ok b p' l')) :
    l' = left ∧ p ≤ p' ∧ p' ≤ xs.length ∧ St.bts b ∧ (m = 3 → U8.utf8 b = true) ∧ hl m b.length false + b.length ≤ hl m n o + (p' - p) := by
  unfold BodyR at h
  cases o
  · simp only [Bool.false_eq_true, if_false] at h
    obtain ⟨rfl, rfl, h3, rfl, h5, h6⟩ := piece_fact hx hp hn h
    rw [List.nil_append]
    refine ⟨rfl, by omega, h3, chunk_bt xs _ _ hx, h6, ?_⟩
    rw [h5]
    omega
  · simp only [if_true] at h
    obtain ⟨q1, q2, q3, q4, q5, q6⟩ := chunks_good hx h rfl (by intro x hx; cases hx) (fun _ => rfl)
    refine ⟨q1, by omega, q3, q4, q5, ?_⟩
    have h0 : gg (([] : List Int).length : Int) = 1 := rfl
    have h1 : (([] : List Int).length : Int) = 0 := rfl
    have h2 := gg_cases (b.length : Int)
    have hg := hl_le_gg m (b.length : Int) (by omega) (by omega)
    have hp := hl_pos m n true
    omega

/-- What is said of an item that was read. -/
structure Good (xs : List Int) (d : Nat) (left H p : Int) (x : Itm) (p' l' : Int) : Prop where
  size : l' + size x = left
  left : 0 ≤ l'
  deep : deep x + d ≤ 7
  fine : fine x = true
  sane : sane x
  at0 : p ≤ p'
  at1 : p' ≤ xs.length
  len : ((enc x).length : Int) ≤ H + (p' - p)
/-- And of items. -/
structure Goods (xs : List Int) (d : Nat) (left p : Int) (l : List Itm) (p' l' : Int) : Prop where
  size : l' + sizes l = left
  left : 0 ≤ l'
  deep : deeps l + d ≤ 6
  fine : fines l = true
  sane : sanes l
  at0 : p ≤ p'
  at1 : p' ≤ xs.length
  len : ((encs l).length : Int) ≤ p' - p
theorem enc_len (x : Itm) : ((enc x).length : Int) = hl x.kind (cn x) false + x.bs.length + (encs x.sub).length := by
  rw [enc_sub, List.length_append, List.length_append]
  unfold hl
  omega
theorem list_good {xs : List Int} {d : Nat} {n left p p' l' : Int} {o : Bool} {l : List Itm} (hd : d ≤ 6) (h : Goods xs d (left - 1) p l p' l') (hlen : hl 4 l.length false + (encs l).length ≤ hl 4 n o + (p' - p)) (hl0 : left ≤ 256) : Good xs d left (hl 4 n o) p (.mk 4 0 [] l) p' l' := by
  refine ⟨?_, h.left, ?_, ?_, ?_, h.at0, h.at1, ?_⟩
  · have := h.size; simp only [size]; omega
  · have := h.deep; simp only [deep]; omega
  · simp [fine, kindFit, Itm.kind, Itm.num, Itm.bs, h.fine]
  · exact ⟨by omega, (by intro x hx; cases hx), h.sane⟩
  · rw [enc_len]
    have : cn (.mk 4 0 [] l) = l.length := by simp [cn, Itm.kind, Itm.sub]
    rw [this]
    simp only [Itm.kind, Itm.bs, Itm.sub, List.length_nil]
    omega

mutual
theorem item_good {xs : List Int} (hx : St.bts xs) (hlen : xs.length ≤ 4294967295) : ∀ {d : Nat} {m n : Int} {o : Bool} {p left : Int} {r : Res Itm}, ItemR xs d m n o p left r → ∀ {x : Itm} {p' l' : Int}, r = .ok x p' l' → 0 ≤ p → p ≤ xs.length → HeadP.right m n o = true → 0 ≤ n → n ≤ 18446744073709551615 → 0 ≤ left → left ≤ 256 → Good xs d left (hl m n o) p x p' l'
  | _, _, _, _, _, _, _, .form _, _, _, _, e, _, _, _, _, _, _, _ => by cases e
  | _, _, _, _, _, _, _, .deep _ _, _, _, _, e, _, _, _, _, _, _, _ => by cases e
  | _, _, _, _, _, _, _, .long _ _, _, _, _, e, _, _, _, _, _, _, _ => by cases e
  | _, _, _, _, _, _, _, .bodyE _ _ _ _, _, _, _, e, _, _, _, _, _, _, _ => by cases e
  | _, _, _, _, _, _, _, .openE _ _ _, _, _, _, e, _, _, _, _, _, _, _ => by cases e
  | _, _, _, _, _, _, _, .need _ _ _, _, _, _, e, _, _, _, _, _, _, _ => by cases e
  | _, _, _, _, _, _, _, .manyE _ _ _ _, _, _, _, e, _, _, _, _, _, _, _ => by cases e
  | _, _, n, o, p, left, _, .num hd hl', _, _, _, e, hp, hpx, hr, hn, hn2, hl0, hl1 => by
    injection e with e1 e2 e3
    subst e1 e2 e3
    have ho : o = false := by
      cases o
      · rfl
      · simp [HeadP.right, HeadP.mayOpen] at hr
    subst ho
    refine ⟨by simp [size, sizes], by omega, by simp [deep, deeps]; omega, by simp [fine, kindFit, Itm.kind, Itm.bs, Itm.sub, fines], ⟨⟨hn, hn2⟩, (by intro x hx; cases hx), trivial⟩, by omega, hpx, ?_⟩
    rw [enc_len]
    simp [cn, Itm.kind, Itm.num, Itm.bs, Itm.sub, encs]
  | _, m, n, o, p, left, _, .body (b := b) hm hd hl' hb, _, _, _, e, hp, hpx, hr, hn, hn2, hl0, hl1 => by
    injection e with e1 e2 e3
    subst e1 e2 e3
    obtain ⟨rfl, q2, q3, q4, q5, q6⟩ := body_good hx hp hpx hn hlen hb
    refine ⟨by simp [size, sizes], by omega, by simp [deep, deeps]; omega, ?_, ⟨by omega, q4, trivial⟩, q2, q3, ?_⟩
    · rcases hm with rfl | rfl
      · simp [fine, kindFit, Itm.kind, Itm.num, Itm.sub, fines]
      · simp [fine, kindFit, Itm.kind, Itm.num, Itm.bs, Itm.sub, fines, q5]
    · rw [enc_len]
      have : cn (.mk m 0 b []) = b.length := by simp [cn, Itm.kind, Itm.bs, hm]
      rw [this]
      simp only [Itm.kind, Itm.bs, Itm.sub, encs, List.length_nil]
      omega
  | d, _, n, _, p, left, _, .open_ (l := l) hd hl' hb, _, _, _, e, hp, hpx, hr, hn, hn2, hl0, hl1 => by
    injection e with e1 e2 e3
    subst e1 e2 e3
    obtain ⟨l2, e2, g, h1⟩ := open_good hx hlen hb rfl hd hp hpx (by omega) (by omega)
    rw [List.nil_append] at e2
    rw [e2]
    refine list_good hd g ?_ hl1
    have hls := length_le_sizes l2
    have hsz := g.size
    have hl2 := g.left
    have h2 := hl_closed 4 (l2.length : Int) (by omega)
    have h3 := hl_pos 4 n true
    omega
  | d, _, n, _, p, left, _, .many (l := l) hd hl' hn' hb, _, _, _, e, hp, hpx, hr, hn, hn2, hl0, hl1 => by
    injection e with e1 e2 e3
    subst e1 e2 e3
    obtain ⟨l2, e2, g, h1⟩ := many_good hx hlen hb rfl hd hp hpx (by omega) (by omega)
    rw [List.nil_append] at e2
    rw [e2]
    refine list_good hd g ?_ hl1
    have := g.len
    rw [h1, Int.toNat_of_nonneg hn]
    omega
theorem many_good {xs : List Int} (hx : St.bts xs) (hlen : xs.length ≤ 4294967295) : ∀ {d k : Nat} {acc : List Itm} {p left : Int} {r : Res (List Itm)}, ManyR xs d k acc p left r → ∀ {l : List Itm} {p' l' : Int}, r = .ok l p' l' → d ≤ 6 → 0 ≤ p → p ≤ xs.length → 0 ≤ left → left ≤ 256 → ∃ l2, l = acc ++ l2 ∧ Goods xs d left p l2 p' l' ∧ l2.length = k
  | _, _, _, _, _, _, .bad _ _, _, _, _, e, _, _, _, _, _ => by cases e
  | _, _, _, _, _, _, .cut _ _, _, _, _, e, _, _, _, _, _ => by cases e
  | d, _, acc, p, left, _, .done, _, _, _, e, hd, hp, hpx, hl0, hl1 => by
    injection e with e1 e2 e3
    subst e1 e2 e3
    exact ⟨[], by simp, ⟨by simp [sizes], hl0, by simp [deeps]; omega, rfl, trivial, by omega, hpx, by simp [encs]⟩, rfl⟩
  | d, _, acc, p, left, _, .more (x := x) h hi hr, _, _, _, e, hd, hp, hpx, hl0, hl1 => by
    have hf := hd_fact hx h
    have g1 := item_good hx hlen hi rfl (by omega) (by omega) hf.2.2.2.2.2.2 hf.2.2.2.2.1 hf.2.2.2.2.2.1 hl0 hl1
    have hd6 : d + 1 ≤ 6 := by have := g1.deep; have := deep_pos x; omega
    have a0 := g1.at0
    have a1 := g1.at1
    have s1 := g1.size
    have l1 := g1.left
    have d1 := g1.deep
    have e1 := g1.len
    obtain ⟨l2, rfl, g, hk⟩ := many_good hx hlen hr e hd (by omega) a1 l1 (by omega)
    refine ⟨x :: l2, by simp, ⟨?_, g.left, ?_, ?_, ⟨g1.sane, g.sane⟩, ?_, g.at1, ?_⟩, by simp [hk]⟩
    · have := g.size; simp only [sizes]; omega
    · have := g.deep; simp only [deeps]; omega
    · simp [fines, g1.fine, g.fine]
    · have := g.at0; omega
    · have := g.len; simp only [encs, List.length_append]; omega
theorem open_good {xs : List Int} (hx : St.bts xs) (hlen : xs.length ≤ 4294967295) : ∀ {d : Nat} {acc : List Itm} {p left : Int} {r : Res (List Itm)}, OpenR xs d acc p left r → ∀ {l : List Itm} {p' l' : Int}, r = .ok l p' l' → d ≤ 6 → 0 ≤ p → p ≤ xs.length → 0 ≤ left → left ≤ 256 → ∃ l2, l = acc ++ l2 ∧ Goods xs d left p l2 p' l' ∧ ((encs l2).length : Int) + 1 ≤ p' - p
  | _, _, _, _, _, .bad _ _, _, _, _, e, _, _, _, _, _ => by cases e
  | _, _, _, _, _, .cut _ _ _, _, _, _, e, _, _, _, _, _ => by cases e
  | d, acc, p, left, _, .stop h he, _, _, _, e, hd, hp, hpx, hl0, hl1 => by
    injection e with e1 e2 e3
    subst e1 e2 e3
    have hf := hd_fact hx h
    exact ⟨[], by simp, ⟨by simp [sizes], hl0, by simp [deeps]; omega, rfl, trivial, by omega, hf.2.2.2.1, by simp [encs]; omega⟩, by simp [encs]; omega⟩
  | d, acc, p, left, _, .more (x := x) h he hi hr, _, _, _, e, hd, hp, hpx, hl0, hl1 => by
    have hf := hd_fact hx h
    have g1 := item_good hx hlen hi rfl (by omega) (by omega) hf.2.2.2.2.2.2 hf.2.2.2.2.1 hf.2.2.2.2.2.1 hl0 hl1
    have hd6 : d + 1 ≤ 6 := by have := g1.deep; have := deep_pos x; omega
    have a0 := g1.at0
    have a1 := g1.at1
    have s1 := g1.size
    have l1 := g1.left
    have d1 := g1.deep
    have e1 := g1.len
    obtain ⟨l2, rfl, g, hk⟩ := open_good hx hlen hr e hd (by omega) a1 l1 (by omega)
    refine ⟨x :: l2, by simp, ⟨?_, g.left, ?_, ?_, ⟨g1.sane, g.sane⟩, ?_, g.at1, ?_⟩, ?_⟩
    · have := g.size; simp only [sizes]; omega
    · have := g.deep; simp only [deeps]; omega
    · simp [fines, g1.fine, g.fine]
    · have := g.at0; omega
    · have := g.len; simp only [encs, List.length_append]; omega
    · simp only [encs, List.length_append]; omega
end
theorem piece_err {xs acc : List Int} {m n p left e : Int} (h : piece xs acc m n p left = .err e) : e ≠ 0 := by
  unfold piece at h
  split at h
  · injection h with h; omega
  · split at h
    · injection h with h; omega
    · cases h
theorem chunks_err {xs : List Int} {m left : Int} : ∀ {acc : List Int} {p : Int} {r : Res (List Int)}, ChunksR xs m left acc p r → ∀ {e : Int}, r = .err e → e ≠ 0 := by
  intro acc p r h
  induction h with
  | bad _ he => intro e h; injection h with h; omega
  | stop _ _ => intro e h; cases h
  | form _ _ _ => intro e h; injection h with h; omega
  | cut _ hp => intro e h; injection h with h; have := piece_err hp; omega
  | more _ _ _ ih => exact ih
theorem body_err {xs : List Int} {m n p left e : Int} {o : Bool} (h : BodyR xs m n o p left (.err e)) : e ≠ 0 := by
  unfold BodyR at h
  cases o
  · exact piece_err (by simpa using h)
  · exact chunks_err (by simpa using h) rfl
mutual
theorem item_err {xs : List Int} : ∀ {d : Nat} {m n : Int} {o : Bool} {p left : Int} {r : Res Itm}, ItemR xs d m n o p left r → ∀ {e : Int}, r = .err e → e ≠ 0
  | _, _, _, _, _, _, _, .form _, e, h => by injection h with h; omega
  | _, _, _, _, _, _, _, .deep _ _, e, h => by injection h with h; omega
  | _, _, _, _, _, _, _, .long _ _, e, h => by injection h with h; omega
  | _, _, _, _, _, _, _, .num _ _, e, h => by cases h
  | _, _, _, _, _, _, _, .body _ _ _ _, e, h => by cases h
  | _, _, _, _, _, _, _, .bodyE _ _ _ hb, e, h => by injection h with h; have := body_err hb; omega
  | _, _, _, _, _, _, _, .open_ _ _ _, e, h => by cases h
  | _, _, _, _, _, _, _, .openE _ _ hb, e, h => by injection h with h; have := open_err hb rfl; omega
  | _, _, _, _, _, _, _, .need _ _ _, e, h => by injection h with h; omega
  | _, _, _, _, _, _, _, .many _ _ _ _, e, h => by cases h
  | _, _, _, _, _, _, _, .manyE _ _ _ hb, e, h => by injection h with h; have := many_err hb rfl; omega
theorem many_err {xs : List Int} : ∀ {d k : Nat} {acc : List Itm} {p left : Int} {r : Res (List Itm)}, ManyR xs d k acc p left r → ∀ {e : Int}, r = .err e → e ≠ 0
  | _, _, _, _, _, _, .done, e, h => by cases h
  | _, _, _, _, _, _, .bad _ he, e, h => by injection h with h; omega
  | _, _, _, _, _, _, .cut _ hi, e, h => by injection h with h; have := item_err hi rfl; omega
  | _, _, _, _, _, _, .more _ _ hr, e, h => many_err hr h
theorem open_err {xs : List Int} : ∀ {d : Nat} {acc : List Itm} {p left : Int} {r : Res (List Itm)}, OpenR xs d acc p left r → ∀ {e : Int}, r = .err e → e ≠ 0
  | _, _, _, _, _, .bad _ he, e, h => by injection h with h; omega
  | _, _, _, _, _, .stop _ _, e, h => by cases h
  | _, _, _, _, _, .cut _ _ hi, e, h => by injection h with h; have := item_err hi rfl; omega
  | _, _, _, _, _, .more _ _ _ hr, e, h => open_err hr h
end
theorem read_err {xs : List Int} {p e : Int} (h : ReadR xs p (.err e)) : e ≠ 0 := by
  cases h with
  | bad _ he => exact he
  | item _ hi => exact item_err hi rfl
/-- What Read reads is right, within bounds, and not longer when written. -/
theorem read_good {xs : List Int} (hx : St.bts xs) (hlen : xs.length ≤ 4294967295) {p : Int} {x : Itm} {p' l' : Int} (h : ReadR xs p (.ok x p' l')) : right x = true ∧ sane x ∧ 0 ≤ p ∧ p ≤ p' ∧ p' ≤ xs.length ∧ ((enc x).length : Int) ≤ p' - p := by
  cases h with
  | item h hi =>
    have hf := hd_fact hx h
    have g := item_good hx hlen hi rfl (by omega) (by omega) hf.2.2.2.2.2.2 hf.2.2.2.2.1 hf.2.2.2.2.2.1 (by omega) (by omega)
    have a0 := g.at0
    have s := g.size
    have l := g.left
    have d := g.deep
    have e := g.len
    refine ⟨?_, g.sane, hf.1, by omega, g.at1, by omega⟩
    unfold right
    simp only [g.fine, Bool.and_true, Bool.and_eq_true, decide_eq_true_eq]
    omega
end Go.Proofs.YthknkdphofjmhaaDoor.Cb
/- An item's bytes are read as the item, whatever stands ahead and behind; cut, they are too short: plain. No program is named here. -/
namespace Go.Proofs.YthknkdphofjmhaaDoor.Cb

theorem head_cut (m n : Int) (o : Bool) (ahead : List Int) (c : Nat) (hc : c < (HeadP.bytes m n o).length) (hr : HeadP.right m n o = true) (hn : 0 ≤ n) :
    HeadP.read (ahead ++ (HeadP.bytes m n o).take c) ahead.length = (0, 0, false, 0, 8) := by
  have hm := HeadP.right_major m n o hr
  have hlo := HeadP.low_le n o hn
  have hfo := HeadP.following_le (HeadP.low n o)
  rw [HeadP.read_in _ _ (by simp), List.drop_left]
  unfold HeadP.bytes at hc ⊢
  cases c with
  | zero => rfl
  | succ c =>
    rw [List.take_succ_cons]
    refine HeadP.readL_short _ _ _ ?_
    rw [show (m * 32 + HeadP.low n o) % 32 = HeadP.low n o by omega, List.length_take, HeadP.be_length]
    rw [List.length_cons, HeadP.be_length] at hc
    omega
theorem chunk_mid (pre b post : List Int) : chunk (pre ++ b ++ post) pre.length b.length = b := by
  unfold chunk
  rw [Int.toNat_natCast, Int.toNat_natCast, List.append_assoc, List.drop_left, List.take_left]

/-- What a fine item's parts are, by its kind. -/
theorem fine_parts (k n : Int) (b : List Int) (l : List Itm) (h : fine (.mk k n b l) = true) :
    (k = 0 ∧ b = [] ∧ l = []) ∨ (k = 2 ∧ n = 0 ∧ l = []) ∨ (k = 3 ∧ n = 0 ∧ l = [] ∧ U8.utf8 b = true) ∨ (k = 4 ∧ n = 0 ∧ b = [] ∧ fines l = true) := by
  rw [fine_sub] at h
  simp only [Bool.and_eq_true] at h
  obtain ⟨h1, h2⟩ := h
  have hk := fit_kind _ h1
  simp only [Itm.kind] at hk
  rcases hk with rfl | rfl | rfl | rfl
  · simp [kindFit, Itm.kind, Itm.bs, Itm.sub] at h1
    exact .inl ⟨rfl, h1.1, h1.2⟩
  · simp [kindFit, Itm.kind, Itm.num, Itm.sub] at h1
    exact .inr (.inl ⟨rfl, h1.1, h1.2⟩)
  · simp [kindFit, Itm.kind, Itm.num, Itm.bs, Itm.sub] at h1
    exact .inr (.inr (.inl ⟨rfl, h1.1.1, h1.1.2, h1.2⟩))
  · simp [kindFit, Itm.kind, Itm.num, Itm.bs] at h1
    exact .inr (.inr (.inr ⟨rfl, h1.1, h1.2, h2⟩))
theorem enc_pos (x : Itm) : 1 ≤ (enc x).length := by
  have := enc_len x
  have := hl_pos x.kind (cn x) false
  omega
theorem encs_long : ∀ l : List Itm, l.length ≤ (encs l).length
  | [] => by simp
  | x :: l => by have := enc_pos x; have := encs_long l; simp [encs]; omega

mutual
theorem item_back : ∀ (x : Itm) (ahead behind : List Int) (d : Nat) (left : Int), fine x = true → sane x → deep x + d ≤ 7 → (size x : Int) ≤ left → (enc x).length ≤ 18446744073709551615 →
    HeadP.read (ahead ++ enc x ++ behind) ahead.length = (x.kind, cn x, false, (ahead.length : Int) + hl x.kind (cn x) false, 0) ∧
    ItemR (ahead ++ enc x ++ behind) d x.kind (cn x) false ((ahead.length : Int) + hl x.kind (cn x) false) left (.ok x ((ahead.length : Int) + (enc x).length) (left - size x))
  | .mk k n b l, ahead, behind, d, left, hf, hs, hd, hz, hm => by
    have hlen := enc_len (.mk k n b l)
    have henc := enc_sub (.mk k n b l)
    obtain ⟨hn, hb, hsl⟩ := hs
    have hd1 : d ≤ 6 := by have := deep_pos (.mk k n b l); omega
    have hl0 : left ≠ 0 := by have := size_pos (.mk k n b l); omega
    simp only [Itm.kind, Itm.bs, Itm.sub] at hlen henc ⊢
    have hcn : 0 ≤ cn (.mk k n b l) ∧ cn (.mk k n b l) ≤ 18446744073709551615 := by
      have h1 := encs_long l
      have h2 := hl_pos k (cn (.mk k n b l)) false
      rcases fine_parts k n b l hf with ⟨rfl, _⟩ | ⟨rfl, _⟩ | ⟨rfl, _⟩ | ⟨rfl, _⟩
      · exact hn
      · have e : cn (.mk 2 n b l) = b.length := rfl
        omega
      · have e : cn (.mk 3 n b l) = b.length := rfl
        omega
      · have e : cn (.mk 4 n b l) = l.length := rfl
        omega
    have hright : HeadP.right k (cn (.mk k n b l)) false = true := by
      rcases fine_parts k n b l hf with ⟨rfl, _⟩ | ⟨rfl, _⟩ | ⟨rfl, _⟩ | ⟨rfl, _⟩ <;> simp [HeadP.right]
    have hread := HeadP.read_back k (cn (.mk k n b l)) false ahead (b ++ encs l ++ behind) hright hcn.1 hcn.2
    have hxs : ahead ++ enc (.mk k n b l) ++ behind = ahead ++ HeadP.bytes k (cn (.mk k n b l)) false ++ (b ++ encs l ++ behind) := by rw [henc]; simp only [List.append_assoc]
    have hpre : ((ahead ++ HeadP.bytes k (cn (.mk k n b l)) false).length : Int) = (ahead.length : Int) + hl k (cn (.mk k n b l)) false := by rw [List.length_append]; unfold hl; omega
    refine ⟨by rw [hxs]; exact hread, ?_⟩
    rw [hxs]
    rcases fine_parts k n b l hf with ⟨rfl, rfl, rfl⟩ | ⟨rfl, rfl, rfl⟩ | ⟨rfl, rfl, rfl, hu⟩ | ⟨rfl, rfl, rfl, hfl⟩
    · have e1 : cn (.mk 0 n [] []) = n := rfl
      have e2 : size (.mk 0 n [] []) = 1 := rfl
      rw [hlen, e1, e2]
      simp only [encs, List.length_nil, Int.natCast_zero, Int.add_zero]
      exact .num hd1 hl0
    · have e1 : cn (.mk 2 0 b []) = b.length := rfl
      have e2 : size (.mk 2 0 b []) = 1 := rfl
      rw [hlen, e2]
      refine .body (.inl rfl) hd1 hl0 ?_
      rw [e1] at hpre ⊢
      simp only [BodyR, Bool.false_eq_true, if_false, encs, List.append_nil, List.length_nil, Int.natCast_zero, Int.add_zero]
      rw [← List.append_assoc, ← hpre]
      unfold piece
      rw [if_neg (by simp only [List.length_append]; omega), if_neg (by omega), chunk_mid, List.nil_append]
      congr 1
      omega
    · have e1 : cn (.mk 3 0 b []) = b.length := rfl
      have e2 : size (.mk 3 0 b []) = 1 := rfl
      rw [hlen, e2]
      refine .body (.inr rfl) hd1 hl0 ?_
      rw [e1] at hpre ⊢
      simp only [BodyR, Bool.false_eq_true, if_false, encs, List.append_nil, List.length_nil, Int.natCast_zero, Int.add_zero]
      rw [← List.append_assoc, ← hpre]
      unfold piece
      rw [if_neg (by simp only [List.length_append]; omega), chunk_mid, if_neg (by rw [hu]; simp), List.nil_append]
      congr 1
      omega
    · have e1 : cn (.mk 4 0 [] l) = l.length := rfl
      have e2 : size (.mk 4 0 [] l) = 1 + sizes l := rfl
      have e3 : deep (.mk 4 0 [] l) = 1 + deeps l := rfl
      have hit := items_back l (ahead ++ HeadP.bytes 4 (cn (.mk 4 0 [] l)) false) behind d (left - 1) [] hfl hsl (by omega) (by omega) (by have := hl_pos 4 (cn (.mk 4 0 [] l)) false; rw [List.length_nil] at hlen; omega)
      have hll := encs_long l
      rw [hlen, e2]
      rw [hpre] at hit
      simp only [List.nil_append, List.length_nil] at hit ⊢
      rw [e1] at hpre hit ⊢
      have hgo := ItemR.many (n := (l.length : Int)) hd1 hl0 (by rw [← hpre]; simp only [List.length_append]; omega) hit
      simp only [Int.natCast_add, Int.natCast_zero, Int.add_zero, Int.natCast_one]
      rw [show left - (1 + (sizes l : Int)) = left - 1 - sizes l by omega, show (ahead.length : Int) + (hl 4 l.length false + (encs l).length) = ahead.length + hl 4 l.length false + (encs l).length by omega]
      simpa only [List.append_assoc] using hgo
theorem items_back : ∀ (l : List Itm) (ahead behind : List Int) (d : Nat) (left : Int) (acc : List Itm), fines l = true → sanes l → deeps l + d ≤ 6 → (sizes l : Int) ≤ left → (encs l).length ≤ 18446744073709551615 →
    ManyR (ahead ++ encs l ++ behind) d l.length acc ahead.length left (.ok (acc ++ l) ((ahead.length : Int) + (encs l).length) (left - sizes l))
  | [], ahead, behind, d, left, acc, hf, hs, hd, hz, hm => by
    simp only [encs, sizes, List.append_nil, List.length_nil, Int.natCast_zero, Int.add_zero, Int.sub_zero]
    exact .done
  | x :: l, ahead, behind, d, left, acc, hf, hs, hd, hz, hm => by
    simp only [fines, Bool.and_eq_true] at hf
    simp only [deeps] at hd
    simp only [sizes] at hz
    simp only [encs, List.length_append] at hm
    obtain ⟨h1, h2⟩ := item_back x ahead (encs l ++ behind) (d + 1) left hf.1 hs.1 (by omega) (by omega) (by omega)
    have h3 := items_back l (ahead ++ enc x) behind d (left - size x) (acc ++ [x]) hf.2 hs.2 (by omega) (by omega) (by omega)
    simp only [encs, List.length_cons, sizes, List.length_append]
    have exs : ahead ++ (enc x ++ encs l) ++ behind = ahead ++ enc x ++ (encs l ++ behind) := by simp only [List.append_assoc]
    have exs2 : ahead ++ enc x ++ encs l ++ behind = ahead ++ enc x ++ (encs l ++ behind) := by simp only [List.append_assoc]
    rw [exs]
    rw [exs2] at h3
    refine .more h1 h2 ?_
    simp only [List.length_append, List.append_assoc, Int.natCast_add, List.singleton_append] at h3 ⊢
    rw [show (ahead.length : Int) + ((enc x).length + (encs l).length) = ahead.length + (enc x).length + (encs l).length by omega, show left - ((size x : Int) + sizes l) = left - size x - sizes l by omega]
    exact h3
end

mutual
theorem item_cut : ∀ (x : Itm) (ahead : List Int) (c d : Nat) (left : Int), fine x = true → sane x → deep x + d ≤ 7 → (size x : Int) ≤ left → (enc x).length ≤ 18446744073709551615 → c < (enc x).length →
    HeadP.read (ahead ++ (enc x).take c) ahead.length = (0, 0, false, 0, 8) ∨
    (HeadP.read (ahead ++ (enc x).take c) ahead.length = (x.kind, cn x, false, (ahead.length : Int) + hl x.kind (cn x) false, 0) ∧
      ItemR (ahead ++ (enc x).take c) d x.kind (cn x) false ((ahead.length : Int) + hl x.kind (cn x) false) left (.err 8))
  | .mk k n b l, ahead, c, d, left, hf, hs, hd, hz, hm, hc => by
    have hlen := enc_len (.mk k n b l)
    have henc := enc_sub (.mk k n b l)
    obtain ⟨hn, hb, hsl⟩ := hs
    have hd1 : d ≤ 6 := by have := deep_pos (.mk k n b l); omega
    have hl0 : left ≠ 0 := by have := size_pos (.mk k n b l); omega
    simp only [Itm.kind, Itm.bs, Itm.sub] at hlen henc ⊢
    have hcn : 0 ≤ cn (.mk k n b l) ∧ cn (.mk k n b l) ≤ 18446744073709551615 := by
      have h1 := encs_long l
      have h2 := hl_pos k (cn (.mk k n b l)) false
      rcases fine_parts k n b l hf with ⟨rfl, _⟩ | ⟨rfl, _⟩ | ⟨rfl, _⟩ | ⟨rfl, _⟩
      · exact hn
      · have e : cn (.mk 2 n b l) = b.length := rfl
        omega
      · have e : cn (.mk 3 n b l) = b.length := rfl
        omega
      · have e : cn (.mk 4 n b l) = l.length := rfl
        omega
    have hright : HeadP.right k (cn (.mk k n b l)) false = true := by
      rcases fine_parts k n b l hf with ⟨rfl, _⟩ | ⟨rfl, _⟩ | ⟨rfl, _⟩ | ⟨rfl, _⟩ <;> simp [HeadP.right]
    have hhl : hl k (cn (.mk k n b l)) false = (HeadP.bytes k (cn (.mk k n b l)) false).length := rfl
    by_cases hcut : c < (HeadP.bytes k (cn (.mk k n b l)) false).length
    · left
      rw [henc, List.append_assoc, List.take_append_of_le_length (by omega)]
      exact head_cut _ _ _ ahead c hcut hright hcn.1
    · right
      have htk : (enc (.mk k n b l)).take c = HeadP.bytes k (cn (.mk k n b l)) false ++ (b ++ encs l).take (c - (HeadP.bytes k (cn (.mk k n b l)) false).length) := by
        rw [henc, List.append_assoc, List.take_append, List.take_of_length_le (by omega)]
      have hread := HeadP.read_back k (cn (.mk k n b l)) false ahead ((b ++ encs l).take (c - (HeadP.bytes k (cn (.mk k n b l)) false).length)) hright hcn.1 hcn.2
      have hxl : ((ahead ++ HeadP.bytes k (cn (.mk k n b l)) false ++ (b ++ encs l).take (c - (HeadP.bytes k (cn (.mk k n b l)) false).length)).length : Int) = (ahead.length : Int) + c := by
        simp only [List.length_append, List.length_take]
        omega
      have hpre : ((ahead ++ HeadP.bytes k (cn (.mk k n b l)) false).length : Int) = (ahead.length : Int) + hl k (cn (.mk k n b l)) false := by rw [List.length_append]; unfold hl; omega
      rw [htk, ← List.append_assoc]
      refine ⟨hread, ?_⟩
      rcases fine_parts k n b l hf with ⟨rfl, rfl, rfl⟩ | ⟨rfl, rfl, rfl⟩ | ⟨rfl, rfl, rfl, hu⟩ | ⟨rfl, rfl, rfl, hfl⟩
      · exfalso
        simp only [encs, List.length_nil] at hlen
        omega
      · have e1 : cn (.mk 2 0 b []) = b.length := rfl
        refine .bodyE (.inl rfl) hd1 hl0 ?_
        simp only [BodyR, Bool.false_eq_true, if_false]
        unfold piece
        simp only [encs, List.length_nil] at hlen
        rw [if_pos (by rw [hxl]; rw [e1] at hlen hhl hcut ⊢; omega)]
      · have e1 : cn (.mk 3 0 b []) = b.length := rfl
        refine .bodyE (.inr rfl) hd1 hl0 ?_
        simp only [BodyR, Bool.false_eq_true, if_false]
        unfold piece
        simp only [encs, List.length_nil] at hlen
        rw [if_pos (by rw [hxl]; rw [e1] at hlen hhl hcut ⊢; omega)]
      · have e1 : cn (.mk 4 0 [] l) = l.length := rfl
        have e2 : size (.mk 4 0 [] l) = 1 + sizes l := rfl
        have e3 : deep (.mk 4 0 [] l) = 1 + deeps l := rfl
        simp only [List.length_nil] at hlen
        have hit := items_cut l (ahead ++ HeadP.bytes 4 (cn (.mk 4 0 [] l)) false) (c - (HeadP.bytes 4 (cn (.mk 4 0 [] l)) false).length) d (left - 1) [] hfl hsl (by omega) (by omega) (by have := hl_pos 4 (cn (.mk 4 0 [] l)) false; omega) (by omega)
        rw [hpre] at hit
        simp only [List.nil_append] at hit hxl ⊢
        rw [e1] at hit hxl hhl hpre hcut hlen ⊢
        by_cases hnd : ((ahead ++ HeadP.bytes 4 (l.length : Int) false ++ (encs l).take (c - (HeadP.bytes 4 (l.length : Int) false).length)).length : Int) - ((ahead.length : Int) + hl 4 (l.length : Int) false) < (l.length : Int)
        · exact .need hd1 hl0 hnd
        · exact .manyE hd1 hl0 hnd hit
theorem items_cut : ∀ (l : List Itm) (ahead : List Int) (c d : Nat) (left : Int) (acc : List Itm), fines l = true → sanes l → deeps l + d ≤ 6 → (sizes l : Int) ≤ left → (encs l).length ≤ 18446744073709551615 → c < (encs l).length →
    ManyR (ahead ++ (encs l).take c) d l.length acc ahead.length left (.err 8)
  | [], ahead, c, d, left, acc, hf, hs, hd, hz, hm, hc => by simp [encs] at hc
  | x :: l, ahead, c, d, left, acc, hf, hs, hd, hz, hm, hc => by
    simp only [fines, Bool.and_eq_true] at hf
    simp only [deeps] at hd
    simp only [sizes] at hz
    simp only [encs, List.length_append] at hm hc
    simp only [encs, List.length_cons]
    by_cases hcx : c < (enc x).length
    · rw [List.take_append_of_le_length (by omega)]
      rcases item_cut x ahead c (d + 1) left hf.1 hs.1 (by omega) (by omega) (by omega) hcx with h | ⟨h1, h2⟩
      · exact .bad h (by omega)
      · exact .cut h1 h2
    · rw [List.take_append, List.take_of_length_le (by omega), ← List.append_assoc]
      obtain ⟨h1, h2⟩ := item_back x ahead ((encs l).take (c - (enc x).length)) (d + 1) left hf.1 hs.1 (by omega) (by omega) (by omega)
      have h3 := items_cut l (ahead ++ enc x) (c - (enc x).length) d (left - size x) (acc ++ [x]) hf.2 hs.2 (by omega) (by omega) (by omega) (by omega)
      refine .more h1 h2 ?_
      rw [show ((ahead ++ enc x).length : Int) = ahead.length + (enc x).length by simp] at h3
      exact h3
end

/-- A right item's bytes, with anything behind them, are read as it. -/
theorem read_back (x : Itm) (behind : List Int) (hr : right x = true) (hs : sane x) (hm : (enc x).length ≤ 18446744073709551615) : ReadR (enc x ++ behind) 0 (.ok x (enc x).length (256 - size x)) := by
  unfold right at hr
  simp only [Bool.and_eq_true, decide_eq_true_eq] at hr
  obtain ⟨h1, h2⟩ := item_back x [] behind 1 256 hr.2 hs (by omega) (by omega) hm
  simp only [List.nil_append, List.length_nil, Int.natCast_zero, Int.zero_add] at h1 h2
  exact .item h1 h2
/-- Cut, they are too short. -/
theorem read_cut (x : Itm) (c : Nat) (hr : right x = true) (hs : sane x) (hm : (enc x).length ≤ 18446744073709551615) (hc : c < (enc x).length) : ReadR ((enc x).take c) 0 (.err 8) := by
  unfold right at hr
  simp only [Bool.and_eq_true, decide_eq_true_eq] at hr
  rcases item_cut x [] c 1 256 hr.2 hs (by omega) (by omega) hm hc with h | ⟨h1, h2⟩
  · simp only [List.nil_append, List.length_nil, Int.natCast_zero] at h
    exact .bad h (by omega)
  · simp only [List.nil_append, List.length_nil, Int.natCast_zero, Int.zero_add] at h1 h2
    exact .item h1 h2
end Go.Proofs.YthknkdphofjmhaaDoor.Cb
/- Bytes of items are bytes; what memory holds is sane. No program is named here. -/
namespace Go.Proofs.YthknkdphofjmhaaDoor.EncB
open Go.RowKit Wd Cb

mutual
theorem Rep.sane {w : World} {lo hi : Nat} : ∀ {x : Itm} {cs : List Value}, Rep w lo hi x cs → sane x
  | .mk k n b l, cs, h => by
    unfold Rep at h
    obtain ⟨A, c, A', c', vs, h1, h2, h3, h4, h5, h6, h7, h8, h9, h10, h11⟩ := h
    exact ⟨h3, h4, Reps.sane h11⟩
theorem Reps.sane {w : World} {lo hi : Nat} : ∀ {l : List Itm} {vs : List Value}, Reps w lo hi l vs → sanes l
  | [], vs, h => trivial
  | x :: l, vs, h => by
    unfold Reps at h
    obtain ⟨c, r, h1, h2, h3⟩ := h
    exact ⟨Rep.sane h2, Reps.sane h3⟩
end
theorem sane_of {w : World} {lo hi : Nat} {x : Itm} {v : Value} (h : ItemV w lo hi x v) : sane x := let ⟨_, _, r⟩ := h; Rep.sane r

mutual
theorem enc_bts : ∀ x : Itm, fine x = true → sane x → (enc x).length ≤ 18446744073709551615 → St.bts (enc x)
  | .mk k n b l, hf, hs, hm => by
    have hlen := enc_len (.mk k n b l)
    obtain ⟨hn, hb, hsl⟩ := hs
    simp only [Itm.kind, Itm.bs, Itm.sub] at hlen
    have h1 := encs_long l
    have h2 := hl_pos k (cn (.mk k n b l)) false
    have hcn : 0 ≤ cn (.mk k n b l) := by
      rcases fine_parts k n b l hf with ⟨rfl, _⟩ | ⟨rfl, _⟩ | ⟨rfl, _⟩ | ⟨rfl, _⟩
      · exact hn.1
      · have e : cn (.mk 2 n b l) = b.length := rfl
        omega
      · have e : cn (.mk 3 n b l) = b.length := rfl
        omega
      · have e : cn (.mk 4 n b l) = l.length := rfl
        omega
    have hright : HeadP.right k (cn (.mk k n b l)) false = true := by
      rcases fine_parts k n b l hf with ⟨rfl, _⟩ | ⟨rfl, _⟩ | ⟨rfl, _⟩ | ⟨rfl, _⟩ <;> simp [HeadP.right]
    have hfl : fines l = true := by
      rw [fine_sub] at hf
      exact (Bool.and_eq_true_iff.1 hf).2
    have hbl := encs_bts l hfl hsl (by omega)
    rw [enc_sub]
    intro y hy
    rcases List.mem_append.1 hy with hy | hy
    · rcases List.mem_append.1 hy with hy | hy
      · exact HeadP.bytes_bound _ _ _ hright hcn y hy
      · exact hb y hy
    · exact hbl y hy
theorem encs_bts : ∀ l : List Itm, fines l = true → sanes l → (encs l).length ≤ 18446744073709551615 → St.bts (encs l)
  | [], _, _, _ => by intro x hx; cases hx
  | x :: l, hf, hs, hm => by
    simp only [fines, Bool.and_eq_true] at hf
    simp only [encs, List.length_append] at hm
    have h1 := enc_bts x hf.1 hs.1 (by omega)
    have h2 := encs_bts l hf.2 hs.2 (by omega)
    intro y hy
    rcases List.mem_append.1 (show y ∈ enc x ++ encs l from hy) with hy | hy
    · exact h1 y hy
    · exact h2 y hy
end
theorem right_fine {x : Itm} (h : right x = true) : fine x = true := by
  unfold right at h
  exact (Bool.and_eq_true_iff.1 h).2

end Go.Proofs.YthknkdphofjmhaaDoor.EncB
