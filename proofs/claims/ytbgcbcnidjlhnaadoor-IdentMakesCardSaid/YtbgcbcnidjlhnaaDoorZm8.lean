/- Texts of my own, laid together: RefNum, RefParP. -/
import Derived.Test.YtbgcbcnidjlhnaaDoorZm7
/- The contract of the reference's number; digits there and back, as the reference reads them. -/
namespace Go.Proofs.YtbgcbcnidjlhnaaDoor.Eid
open Go.RowKit Wd Cb EidL

/-- A number at the head of a list, of at most so many digits: its value, how many digits. -/
def numL : Nat → Nat → List UInt8 → Nat × Nat
  | 0, a, _ => (a, 0)
  | _ + 1, a, [] => (a, 0)
  | f + 1, a, c :: r => if 48 ≤ c.toNat ∧ c.toNat ≤ 57 then ((numL f (10 * a + (c.toNat - 48)) r).1, (numL f (10 * a + (c.toNat - 48)) r).2 + 1) else (a, 0)
theorem numL_yes (f a : Nat) (c : UInt8) (r : List UInt8) (h : 48 ≤ c.toNat ∧ c.toNat ≤ 57) : numL (f + 1) a (c :: r) = ((numL f (10 * a + (c.toNat - 48)) r).1, (numL f (10 * a + (c.toNat - 48)) r).2 + 1) := by
  rw [numL, if_pos h]
theorem numL_no (f a : Nat) (c : UInt8) (r : List UInt8) (h : ¬ (48 ≤ c.toNat ∧ c.toNat ≤ 57)) : numL f a (c :: r) = (a, 0) := by
  cases f
  · rfl
  · rw [numL, if_neg h]
theorem numL_nil (f a : Nat) : numL f a [] = (a, 0) := by cases f <;> rfl
theorem numL_dec (u : Nat) : ∀ (f a : Nat) (r : List UInt8), Lib.nDigits u ≤ f → numL f a (Lib.decDigits u ++ r) = ((numL (f - Lib.nDigits u) (a * 10 ^ Lib.nDigits u + u) r).1, (numL (f - Lib.nDigits u) (a * 10 ^ Lib.nDigits u + u) r).2 + Lib.nDigits u) := by
  induction u using Nat.strongRecOn with
  | _ u ih =>
    intro f a r hf
    by_cases h : u < 10
    · rw [Lib.nDigits_small h] at hf ⊢
      obtain ⟨f, rfl⟩ : ∃ g, f = g + 1 := ⟨f - 1, by omega⟩
      rw [Lib.decDigits_one h, List.singleton_append, numL_yes _ _ _ _ (by rw [dig_one u h]; omega), dig_one u h, show 10 * a + (48 + u - 48) = a * 10 ^ 1 + u by omega, Nat.add_sub_cancel]
    · rw [Lib.nDigits_big h, Nat.pow_succ] at *
      have e1 : a * (10 ^ Lib.nDigits (u / 10) * 10) = a * 10 ^ Lib.nDigits (u / 10) * 10 := (Nat.mul_assoc ..).symm
      rw [e1, Lib.decDigits, dif_neg h, List.append_assoc, ih (u / 10) (by omega) f a _ (by omega), List.singleton_append]
      obtain ⟨g, hg⟩ : ∃ g, f - Lib.nDigits (u / 10) = g + 1 := ⟨f - Lib.nDigits (u / 10) - 1, by omega⟩
      rw [hg, numL_yes _ _ _ _ (by rw [dig_one _ (by omega)]; omega), dig_one _ (by omega)]
      generalize a * 10 ^ Lib.nDigits (u / 10) = A
      rw [show 10 * (A + u / 10) + (48 + u % 10 - 48) = A * 10 + u by omega, show f - (Lib.nDigits (u / 10) + 1) = g by omega]
      simp only [Prod.mk.injEq, true_and]
      omega
theorem nDigits_le : ∀ (k u : Nat), 1 ≤ k → u < 10 ^ k → Lib.nDigits u ≤ k
  | 0, _, h, _ => by omega
  | k + 1, u, _, h => by
    by_cases hu : u < 10
    · rw [Lib.nDigits_small hu]; omega
    · rw [Lib.nDigits_big hu]
      rw [Nat.pow_succ] at h
      rcases Nat.eq_zero_or_pos k with rfl | hk
      · simp at h; omega
      · have := nDigits_le k (u / 10) hk (by omega)
        omega
theorem numL_num (u : Nat) (hu : u ≤ 4294967295) (r : List UInt8) (hr : ∀ f a, numL f a r = (a, 0)) : numL 11 0 (Lib.decDigits u ++ r) = (u, Lib.nDigits u) := by
  have h := nDigits_le 10 u (by omega) (by omega)
  rw [numL_dec u 11 0 r (by omega), hr]
  simp
theorem numL_len : ∀ (f a : Nat) (l : List UInt8), (numL f a l).2 ≤ l.length
  | 0, _, _ => Nat.zero_le _
  | _ + 1, _, [] => Nat.zero_le _
  | f + 1, a, c :: r => by
    have h := numL_len f (10 * a + (c.toNat - 48)) r
    rw [numL]
    split
    · simp only [List.length_cons]; omega
    · exact Nat.zero_le _
theorem numL_lt : ∀ (f a : Nat) (l : List UInt8), (numL f a l).1 < (a + 1) * 10 ^ f
  | 0, a, _ => by simp [numL]
  | f + 1, a, [] => by
    rw [numL_nil, Nat.pow_succ]
    have : 1 ≤ 10 ^ f := Nat.one_le_pow _ _ (by decide)
    have : (a + 1) * 1 ≤ (a + 1) * (10 ^ f * 10) := Nat.mul_le_mul_left _ (by omega)
    omega
  | f + 1, a, c :: r => by
    rw [numL]
    split
    · rename_i hc
      have h := numL_lt f (10 * a + (c.toNat - 48)) r
      have h2 : (10 * a + (c.toNat - 48) + 1) * 10 ^ f ≤ ((a + 1) * 10) * 10 ^ f := Nat.mul_le_mul_right _ (by omega)
      rw [Nat.pow_succ, Nat.mul_comm (10 ^ f) 10, ← Nat.mul_assoc]
      exact Nat.lt_of_lt_of_le h h2
    · rw [Nat.pow_succ]
      have : 1 ≤ 10 ^ f := Nat.one_le_pow _ _ (by decide)
      have : (a + 1) * 1 ≤ (a + 1) * (10 ^ f * 10) := Nat.mul_le_mul_left _ (by omega)
      show a < _
      omega

theorem drop_at (s : ByteArray) (p : Nat) (h : p < s.size) : s.data.toList.drop p = s[p] :: s.data.toList.drop (p + 1) := by
  have hl : p < s.data.toList.length := by simpa using h
  rw [List.drop_eq_getElem_cons hl]
  congr 1
theorem pow10_le {i : Nat} (h : i ≤ 10) : 10 ^ i ≤ 10000000000 := Nat.pow_le_pow_right (n := 10) (by decide) h

set_option maxRecDepth 100000 in
set_option maxHeartbeats 2000000 in
theorem number_any (s : ByteArray) (at_ : Nat) (ha : at_ ≤ s.size) (hs : s.size ≤ 100000) (w : World) :
    Calls Tryd.prog 113 #[.string s, .int .i64 at_] w fun e w' => e = .returned (.tuple #[.int .u64 (numL 11 0 (s.data.toList.drop at_)).1, .int .i64 ((at_ + (numL 11 0 (s.data.toList.drop at_)).2 : Nat) : Int)]) ∧ w' = w := by
  obtain ⟨R, hR⟩ : ∃ R, R = numL 11 0 (s.data.toList.drop at_) := ⟨_, rfl⟩
  have HR : Hid (R = ((numL (11 - 0) 0 (s.data.toList.drop at_)).1, (numL (11 - 0) 0 (s.data.toList.drop at_)).2 + 0)) := Lib.hid (by rw [hR]; rfl)
  rw [← hR]
  clear hR
  have HDA := Lib.hid (drop_at s)
  go_enter Tryd.func113, Tryd.ntmps113
  go_wp2_with fail
  go_loopw [1, 6, 7] (fun av nv iv wr => ∃ (i a p : Nat), i ≤ 11 ∧ p = at_ + i ∧ p ≤ s.size ∧ Hid (a < 10 ^ i) ∧ av = .int .i64 p ∧ nv = .int .u64 a ∧ iv = .int .i64 i ∧ Hid (R = ((numL (11 - i) a (s.data.toList.drop p)).1, (numL (11 - i) a (s.data.toList.drop p)).2 + i)) ∧ Hid (wr = w)) (fun _ _ iv _ => 11 - (intOf iv).toNat)
  case atStart => exact ⟨0, 0, at_, by omega, rfl, ha, Lib.hid (by simp), rfl, rfl, rfl, HR, Lib.hid rfl⟩
  case round =>
    obtain ⟨i, a, p, hi, hpe, hp, HAN, rfl, rfl, rfl, HQ, HW⟩ := hrel
    have HPE := Lib.hid hpe
    clear hpe HR
    have fin : Hid ((numL (11 - i) a (s.data.toList.drop p)) = (a, 0) → R = (a, i) ∧ at_ + i = p) := Lib.hid (fun h => ⟨by rw [HQ.out, h]; simp, HPE.out.symm⟩)
    by_cases h1 : i = 11
    · subst h1
      have HF := Lib.hid (fin.out rfl)
      have t0 : decide (((11 : Nat) : Int) < 11) = false := rfl
      clear fin
      go_wp2_with fail
      go_ret2
      exact ⟨by rw [HF.out.1]; simp [HF.out.2], HW.out⟩
    · have t0 : decide ((i : Int) < 11) = true := decide_eq_true (by omega)
      by_cases h2 : p < s.size
      · have t1 : decide ((p : Int) < (s.size : Int)) = true := decide_eq_true (by omega)
        have j0 : (0 : Int) ≤ (p : Int) := by omega
        have j1 : (p : Int) < (s.size : Int) := by omega
        have HD := Lib.hid (HDA.out p h2)
        by_cases h3 : 48 ≤ s[p].toNat ∧ s[p].toNat ≤ 57
        · have t2 : decide (48 ≤ (s[p].toNat : Int)) = true := decide_eq_true (by omega)
          have t3 : decide ((s[p].toNat : Int) ≤ 57) = true := decide_eq_true (by omega)
          have hb := pow10_le (i := i) (by omega)
          have ha2 := HAN.out
          have HN : Hid (R = ((numL (11 - (i + 1)) (10 * a + (s[p].toNat - 48)) (s.data.toList.drop (p + 1))).1, (numL (11 - (i + 1)) (10 * a + (s[p].toNat - 48)) (s.data.toList.drop (p + 1))).2 + (i + 1))) := Lib.hid (by
            rw [HQ.out, HD.out, show 11 - i = (11 - (i + 1)) + 1 by omega, numL_yes _ _ _ _ h3]
            simp only [Prod.mk.injEq, true_and]
            omega)
          have HAN2 : Hid (10 * a + (s[p].toNat - 48) < 10 ^ (i + 1)) := Lib.hid (by rw [Nat.pow_succ]; omega)
          have ha3 : a < 10000000000 := by omega
          clear ha2 hb fin HQ
          go_wp2_with fail
          go_roundw
          case rel => exact ⟨i + 1, 10 * a + (s[p].toNat - 48), p + 1, by omega, by have := HPE.out; omega, by omega, HAN2, by go_num, by congr 1; omega, by go_num, HN, HW⟩
          case measure => simp [intOf]; omega
        · have HF := Lib.hid (fin.out (by rw [HD.out]; exact numL_no _ _ _ _ h3))
          by_cases h4 : 48 ≤ s[p].toNat
          · have t2 : decide (48 ≤ (s[p].toNat : Int)) = true := decide_eq_true (by omega)
            have t3 : decide ((s[p].toNat : Int) ≤ 57) = false := decide_eq_false (by omega)
            clear fin
            go_wp2_with fail
            go_ret2
            exact ⟨by rw [HF.out.1]; simp [HF.out.2], HW.out⟩
          · have t2 : decide (48 ≤ (s[p].toNat : Int)) = false := decide_eq_false (by omega)
            clear fin
            go_wp2_with fail
            go_ret2
            exact ⟨by rw [HF.out.1]; simp [HF.out.2], HW.out⟩
      · have t1 : decide ((p : Int) < (s.size : Int)) = false := decide_eq_false (by omega)
        have HF := Lib.hid (fin.out (by rw [List.drop_of_length_le (by simp; omega)]; exact numL_nil _ _))
        clear fin
        go_wp2_with fail
        go_ret2
        exact ⟨by rw [HF.out.1]; simp [HF.out.2], HW.out⟩
end Go.Proofs.YtbgcbcnidjlhnaaDoor.Eid
/- The reference's Parse, plain: it tells what the code's does. -/
namespace Go.Proofs.YtbgcbcnidjlhnaaDoor.Eid
open Go.RowKit Wd Cb EidL

/-- Where the slash is (or the end). -/
def slash (l : List UInt8) : Nat := l.findIdx (· == 47)
theorem slash_cons (c : UInt8) (l : List UInt8) : slash (c :: l) = if c = 47 then 0 else slash l + 1 := by
  unfold slash
  rw [List.findIdx_cons]
  by_cases h : c = 47
  · rw [if_pos h, h]; rfl
  · rw [if_neg h, beq_eq_false_iff_ne.2 h]; rfl
theorem slash_here : ∀ (h d : List UInt8), (47 : UInt8) ∉ h → slash (h ++ 47 :: d) = h.length
  | [], d, _ => by rw [List.nil_append, slash_cons, if_pos rfl]; rfl
  | c :: h, d, hn => by
    rw [List.cons_append, slash_cons, if_neg (fun e => hn (by rw [e]; exact List.mem_cons_self ..)), slash_here h d (fun hm => hn (List.mem_cons_of_mem _ hm))]
    rfl
theorem slash_le : ∀ l : List UInt8, slash l ≤ l.length
  | [] => Nat.le_refl _
  | c :: l => by
    have := slash_le l
    rw [slash_cons]
    split <;> simp only [List.length_cons] <;> omega

/-- What the reference takes a text's name to be. -/
def rpNum (l : List UInt8) : Nm := ⟨true, (numL 11 0 (l.drop 4)).1, if 4 + (numL 11 0 (l.drop 4)).2 < l.length then (numL 11 0 (l.drop (4 + (numL 11 0 (l.drop 4)).2 + 1))).1 else (0 : Nat), ⟨#[]⟩, ⟨#[]⟩⟩
def rpTxt (l : List UInt8) : Nm := ⟨false, 0, 0, ba ((l.drop 6).take (slash (l.drop 6))), ba (l.drop (6 + slash (l.drop 6) + 1))⟩
def isIpn (l : List UInt8) : Bool := decide (4 < l.length) && l.take 4 == [105, 112, 110, 58]
def isDtn (l : List UInt8) : Bool := decide (6 < l.length) && l.take 6 == [100, 116, 110, 58, 47, 47]
def rpGuess (l : List UInt8) : Option Nm := if isIpn l then some (rpNum l) else if isDtn l then (if 6 + slash (l.drop 6) = l.length then none else some (rpTxt l)) else some zeroNm
def fits (g : Nm) (s : ByteArray) : Bool := right g && decide (1 ≤ kd g) && decide (textOf g = s)
def rpOk (s : ByteArray) : Bool := if s = ⟨#[100, 116, 110, 58, 110, 111, 110, 101]⟩ then true else match rpGuess s.data.toList with
  | none => false
  | some g => fits g s
def rpVal (s : ByteArray) : Nm := if s = ⟨#[100, 116, 110, 58, 110, 111, 110, 101]⟩ then zeroNm else match rpGuess s.data.toList with
  | none => zeroNm
  | some g => if fits g s then g else zeroNm

theorem numL_u64 (l : List UInt8) : (numL 11 0 l).1 ≤ 18446744073709551615 := by
  have := numL_lt 11 0 l
  omega
theorem rpNum_ok (l : List UInt8) : (rpNum l).ok := by
  have h1 := numL_u64 (l.drop 4)
  have h2 := numL_u64 (l.drop (4 + (numL 11 0 (l.drop 4)).2 + 1))
  refine ⟨?_, ?_, ?_, ?_, by simp [rpNum, ByteArray.size], by simp [rpNum, ByteArray.size]⟩
  · simp only [rpNum]; omega
  · simp only [rpNum]; omega
  · simp only [rpNum]; split <;> omega
  · simp only [rpNum]; split <;> omega
theorem rpTxt_ok (l : List UInt8) (hl : l.length ≤ maxLen) : (rpTxt l).ok := by
  refine ⟨Int.le_refl 0, (show (0 : Int) ≤ 18446744073709551615 by decide), Int.le_refl 0, (show (0 : Int) ≤ 18446744073709551615 by decide), ?_, ?_⟩
  · show ((l.drop 6).take (slash (l.drop 6))).length ≤ maxLen
    simp only [List.length_take, List.length_drop]
    omega
  · show (l.drop (6 + slash (l.drop 6) + 1)).length ≤ maxLen
    simp only [List.length_drop]
    omega
theorem rpGuess_ok (l : List UInt8) (hl : l.length ≤ maxLen) {g : Nm} (h : rpGuess l = some g) : g.ok := by
  unfold rpGuess at h
  split at h
  · injection h with h; rw [← h]; exact rpNum_ok l
  · split at h
    · split at h
      · cases h
      · injection h with h; rw [← h]; exact rpTxt_ok l hl
    · injection h with h; rw [← h]; exact zero_ok
/-- Of a name's text it takes the name. -/
theorem rpGuess_text (x : Nm) (hx : x.ok) (hr : right x = true) (h0 : kd x ≠ 0) : rpGuess (textOf x).data.toList = some x := by
  rcases kd_cases x with h | h | h
  · exact absurd h h0
  · obtain ⟨e, h1, h2, h3⟩ := right_one x hr h
    have h4 := hx.n0
    have h5 := hx.s0
    generalize x.node = n at *
    generalize x.service = s at *
    subst e
    rw [text_one]
    have hn := numL_num n.toNat (by omega) (46 :: Lib.decDigits s.toNat) (fun f a => numL_no f a _ _ (by decide))
    have hs := numL_num s.toNat (by omega) [] numL_nil
    rw [List.append_nil] at hs
    have hd1 : ([105, 112, 110, 58] ++ (Lib.decDigits n.toNat ++ 46 :: Lib.decDigits s.toNat)).drop 4 = Lib.decDigits n.toNat ++ 46 :: Lib.decDigits s.toNat := rfl
    have hd2 : ([105, 112, 110, 58] ++ (Lib.decDigits n.toNat ++ 46 :: Lib.decDigits s.toNat)).drop (4 + Lib.nDigits n.toNat + 1) = Lib.decDigits s.toNat := by
      rw [show 4 + Lib.nDigits n.toNat + 1 = (([105, 112, 110, 58] : List UInt8) ++ (Lib.decDigits n.toNat ++ [46])).length by simp [Lib.decDigits_length]; omega]
      have e : ([105, 112, 110, 58] : List UInt8) ++ (Lib.decDigits n.toNat ++ 46 :: Lib.decDigits s.toNat) = (([105, 112, 110, 58] : List UInt8) ++ (Lib.decDigits n.toNat ++ [46])) ++ Lib.decDigits s.toNat := by simp
      rw [e, List.drop_left]
    have hi : isIpn ([105, 112, 110, 58] ++ (Lib.decDigits n.toNat ++ 46 :: Lib.decDigits s.toNat)) = true := by
      unfold isIpn
      rw [Bool.and_eq_true]
      refine ⟨decide_eq_true ?_, rfl⟩
      simp only [List.length_append, List.length_cons]
      omega
    unfold rpGuess
    rw [hi, if_pos rfl]
    unfold rpNum
    rw [hd1, hn]
    simp only
    rw [hd2, hs, if_pos (by simp [Lib.decDigits_length]; omega)]
    simp only [Option.some.injEq, Nm.mk.injEq, true_and, and_true]
    omega
  · obtain ⟨e, h1, h2, h3⟩ := right_two x hr h
    have hh : (47 : UInt8) ∉ x.host.data.toList := fun hm => (ok_host (mk_all h2 _ hm)).1 rfl
    have hq : ([100, 116, 110, 58] : List UInt8) ++ ([47, 47] ++ (x.host.data.toList ++ 47 :: x.demux.data.toList)) = [100, 116, 110, 58, 47, 47] ++ (x.host.data.toList ++ 47 :: x.demux.data.toList) := rfl
    rw [text_two x h, hq]
    have hd1 : ([100, 116, 110, 58, 47, 47] ++ (x.host.data.toList ++ 47 :: x.demux.data.toList)).drop 6 = x.host.data.toList ++ 47 :: x.demux.data.toList := rfl
    have hd2 : ([100, 116, 110, 58, 47, 47] ++ (x.host.data.toList ++ 47 :: x.demux.data.toList)).drop (6 + x.host.data.toList.length + 1) = x.demux.data.toList := by
      rw [show 6 + x.host.data.toList.length + 1 = (([100, 116, 110, 58, 47, 47] : List UInt8) ++ (x.host.data.toList ++ [47])).length by simp only [List.length_append, List.length_cons, List.length_nil]; omega]
      have e : ([100, 116, 110, 58, 47, 47] : List UInt8) ++ (x.host.data.toList ++ 47 :: x.demux.data.toList) = (([100, 116, 110, 58, 47, 47] : List UInt8) ++ (x.host.data.toList ++ [47])) ++ x.demux.data.toList := by simp
      rw [e, List.drop_left]
    have hne : isIpn ([100, 116, 110, 58, 47, 47] ++ (x.host.data.toList ++ 47 :: x.demux.data.toList)) = false := by
      unfold isIpn
      rw [Bool.and_eq_false_iff]
      exact .inr rfl
    have hi : isDtn ([100, 116, 110, 58, 47, 47] ++ (x.host.data.toList ++ 47 :: x.demux.data.toList)) = true := by
      unfold isDtn
      rw [Bool.and_eq_true]
      refine ⟨decide_eq_true ?_, rfl⟩
      simp only [List.length_append, List.length_cons]
      omega
    unfold rpGuess
    rw [hne, if_neg (by decide), hi, if_pos rfl, hd1, slash_here _ _ hh, if_neg (by simp only [List.length_append, List.length_cons]; omega)]
    unfold rpTxt
    rw [hd1, slash_here _ _ hh, hd2, List.take_left]
    exact congrArg some e.symm
theorem rp_is (s : ByteArray) (hs : s.size ≤ 4294967280) : rpVal s = parseOf s ∧ rpOk s = isName s := by
  have hl : s.data.toList.length ≤ maxLen := by have := Lib.size_eq s; unfold maxLen; omega
  by_cases h : s = ⟨#[100, 116, 110, 58, 110, 111, 110, 101]⟩
  · subst h
    have hc := parse_C
    unfold rpVal rpOk
    rw [if_pos rfl, if_pos rfl]
    have hn : isName (⟨#[100, 116, 110, 58, 110, 111, 110, 101]⟩ : ByteArray) = true := by
      cases hi : isName (⟨#[100, 116, 110, 58, 110, 111, 110, 101]⟩ : ByteArray)
      · have := hc.2
        unfold parseE at this
        rw [hi] at this
        cases this
      · rfl
    exact ⟨hc.1.symm, hn.symm⟩
  · unfold rpVal rpOk
    rw [if_neg h, if_neg h]
    cases hi : isName s
    · have key : ∀ g, rpGuess s.data.toList = some g → fits g s = false := fun g hg => by
        cases hf : fits g s
        · rfl
        · unfold fits at hf
          simp only [Bool.and_eq_true, decide_eq_true_eq] at hf
          obtain ⟨⟨h1, h2⟩, h3⟩ := hf
          have := isName_text g (rpGuess_ok _ hl hg) h1
          rw [h3, hi] at this
          cases this
      have hp : parseOf s = zeroNm := by unfold parseOf; rw [hi]; rfl
      rw [hp]
      cases hg : rpGuess s.data.toList with
      | none => exact ⟨rfl, rfl⟩
      | some g =>
        have := key g hg
        simp [this]
    · obtain ⟨h1, h2⟩ := name_text hi
      have hok := guess_ok s.data.toList hl
      have hpe : parseOf s = guessOf s.data.toList := by unfold parseOf; rw [hi]; rfl
      rw [← hpe] at hok
      have h0 : kd (parseOf s) ≠ 0 := fun e => by
        rw [kd_zero_eq _ e] at h2
        rw [text_zero] at h2
        exact h h2.symm
      have hg := rpGuess_text (parseOf s) hok h1 h0
      rw [h2] at hg
      have hf : fits (parseOf s) s = true := by
        unfold fits
        simp only [Bool.and_eq_true, decide_eq_true_eq]
        refine ⟨⟨h1, ?_⟩, h2⟩
        rcases kd_cases (parseOf s) with e | e | e <;> omega
      rw [hg]
      simp [hf]
end Go.Proofs.YtbgcbcnidjlhnaaDoor.Eid
