/- Texts of my own, laid together: U8P, U8W. -/
import Derived.Test.YthknkdphofjmhaaDoorZg1
import Derived.Lib.ValidLaws
import Derived.Shelf.Unicode.DecodeSlow
import Derived.Test.YthknkdphofjmhaaDoorProg
import Derived.Test.YthknkdphofjmhaaDoorZg4
import Derived.WalkKit
import Derived.WalkSpells
import Derived.Lib.Hide
import Derived.Lib.EndianBits
import Derived.Outline
import Derived.Deep.QuietTactic
import Derived.BigQuiet
import Derived.Laws.Pointers
/- Which bytes are UTF-8: plain. No program is named here. -/
namespace Go.Proofs.YthknkdphofjmhaaDoor.U8

/-- How many bytes a character has whose first byte is this one, from 128 on; 0: none. -/
def cnt (c : Int) : Nat := if 194 ≤ c ∧ c ≤ 223 then 2 else if 224 ≤ c ∧ c ≤ 239 then 3 else if 240 ≤ c ∧ c ≤ 244 then 4 else 0
/-- Between which its second byte lies. -/
def low (c : Int) : Int := if c = 224 then 160 else if c = 240 then 144 else 128
def high (c : Int) : Int := if c = 237 then 159 else if c = 244 then 143 else 191
/-- What of the bytes from the second on is no character's. -/
def bad (l : List Int) : Prop := cnt (l.getD 0 0) = 0 ∨ l.length < cnt (l.getD 0 0) ∨ l.getD 1 0 < low (l.getD 0 0) ∨ high (l.getD 0 0) < l.getD 1 0 ∨
  (3 ≤ cnt (l.getD 0 0) ∧ (l.getD 2 0 < 128 ∨ 191 < l.getD 2 0)) ∨ (4 ≤ cnt (l.getD 0 0) ∧ (l.getD 3 0 < 128 ∨ 191 < l.getD 3 0))
instance (l : List Int) : Decidable (bad l) := by unfold bad; infer_instance
/-- How many bytes the character at the beginning has; 0: there is none. -/
def pt (l : List Int) : Nat := if l.getD 0 0 < 128 then 1 else if bad l then 0 else cnt (l.getD 0 0)
/-- Are bytes UTF-8? By so many steps. -/
def go : Nat → List Int → Bool
  | 0, _ => true
  | n + 1, l => if l = [] then true else if pt l = 0 then false else go n (l.drop (pt l))
def utf8 (l : List Int) : Bool := go l.length l

theorem go_more : ∀ (n m : Nat) (l : List Int), l.length ≤ n → n ≤ m → go m l = go n l
  | 0, m, l, h, _ => by
    obtain rfl : l = [] := List.eq_nil_of_length_eq_zero (by omega)
    cases m <;> simp [go]
  | n + 1, 0, l, _, h => by omega
  | n + 1, m + 1, l, h, hm => by
    simp only [go]
    by_cases h0 : l = []
    · simp [h0]
    · by_cases h1 : pt l = 0
      · simp [h0, h1]
      · rw [if_neg h0, if_neg h0, if_neg h1, if_neg h1]
        exact go_more n m _ (by simp; omega) (by omega)
theorem utf8_nil : utf8 [] = true := rfl
theorem utf8_step (l : List Int) (h : l ≠ []) : utf8 l = if pt l = 0 then false else utf8 (l.drop (pt l)) := by
  have hl : 0 < l.length := List.length_pos_iff.2 h
  unfold utf8
  obtain ⟨n, hn⟩ : ∃ n, l.length = n + 1 := ⟨l.length - 1, by omega⟩
  rw [hn]
  simp only [go]
  rw [if_neg h]
  by_cases h1 : pt l = 0
  · simp [h1]
  · rw [if_neg h1, if_neg h1, go_more _ n _ (Nat.le_refl _) (by simp; omega)]
theorem utf8_low (y : Int) (r : List Int) (h : y < 128) : utf8 (y :: r) = utf8 r := by
  have hp : pt (y :: r) = 1 := by simp [pt, h]
  rw [utf8_step _ (by simp), hp]
  simp
/-- The first k bytes are below 128. -/
theorem utf8_skip : ∀ (k : Nat) (l : List Int), (∀ j, j < k → l.getD j 0 < 128) → utf8 l = utf8 (l.drop k)
  | 0, l, _ => by simp
  | k + 1, [], _ => by simp
  | k + 1, y :: r, h => by
    rw [utf8_low y r (by simpa using h 0 (by omega)), List.drop_succ_cons]
    exact utf8_skip k r fun j hj => by simpa using h (j + 1) (by omega)

/-- Go's own tables say the same. -/
theorem tabs (c : Nat) (h0 : 128 ≤ c) (h1 : c < 256) :
    (cnt (c : Int) = 0 ∧ Lib.firstT c % 8 = 1) ∨ (cnt (c : Int) ≠ 0 ∧ Lib.firstT c % 8 = cnt (c : Int) ∧ (Lib.accLo (Lib.firstT c / 16) : Int) = low (c : Int) ∧ (Lib.accHi (Lib.firstT c / 16) : Int) = high (c : Int)) := by
  have h : ∀ x : Fin 256, 128 ≤ x.val → (cnt ((x.val : Nat) : Int) = 0 ∧ Lib.firstT x.val % 8 = 1) ∨ (cnt ((x.val : Nat) : Int) ≠ 0 ∧ Lib.firstT x.val % 8 = cnt ((x.val : Nat) : Int) ∧ (Lib.accLo (Lib.firstT x.val / 16) : Int) = low ((x.val : Nat) : Int) ∧ (Lib.accHi (Lib.firstT x.val / 16) : Int) = high ((x.val : Nat) : Int)) := by
    set_option maxRecDepth 100000 in
    decide
  exact h ⟨c, h1⟩ h0
theorem cnt_cases (c : Int) : cnt c = 0 ∨ cnt c = 2 ∨ cnt c = 3 ∨ cnt c = 4 := by unfold cnt; (repeat' split) <;> simp

/-- Eight bytes as one number. -/
def le8 (l : List Int) : Nat := Lib.leNat ((l.take 8).map fun n => UInt8.ofNat n.toNat)
theorem le8_lt (l : List Int) : le8 l < 18446744073709551616 := by
  have h := Lib.leNat_lt ((l.take 8).map fun n => UInt8.ofNat n.toNat)
  refine Nat.lt_of_lt_of_le h ?_
  simp only [List.length_map, List.length_take]
  calc 256 ^ (min 8 l.length) ≤ 256 ^ 8 := Nat.pow_le_pow_right (by omega) (Nat.min_le_left _ _)
    _ = 18446744073709551616 := rfl
theorem le8_low (l : List Int) (h8 : 8 ≤ l.length) (hb : St.bts l) (h : le8 l &&& 9259542123273814144 = 0) : ∀ j, j < 8 → l.getD j 0 < 128 := by
  have hl : ((l.take 8).map fun n => UInt8.ofNat n.toNat).length = 8 := by simp; omega
  have hm := (Lib.leNat_mask ((l.take 8).map fun n => UInt8.ofNat n.toNat)).1 (by rw [hl, Lib.maskN8]; exact h)
  intro j hj
  have hlt : j < l.length := by omega
  have hx := hb l[j] (List.getElem_mem hlt)
  have h1 := hm (UInt8.ofNat l[j].toNat) (List.mem_map.2 ⟨l[j], List.mem_iff_getElem.2 ⟨j, by simp; omega, by simp⟩, rfl⟩)
  rw [UInt8.toNat_ofNat', Nat.mod_eq_of_lt (by omega)] at h1
  simp only [List.getD, List.getElem?_eq_getElem hlt, Option.getD_some]
  omega
theorem le8_val (l : List Int) (h8 : 8 ≤ l.length) (hb : St.bts l) :
    (le8 l : Int) = l.getD 0 0 + l.getD 1 0 * 256 + l.getD 2 0 * 65536 + l.getD 3 0 * 16777216 + l.getD 4 0 * 4294967296 + l.getD 5 0 * 1099511627776 + l.getD 6 0 * 281474976710656 + l.getD 7 0 * 72057594037927936 := by
  match l, h8, hb with
  | a0 :: a1 :: a2 :: a3 :: a4 :: a5 :: a6 :: a7 :: r, _, hb =>
    have b0 := hb a0 (by simp)
    have b1 := hb a1 (by simp)
    have b2 := hb a2 (by simp)
    have b3 := hb a3 (by simp)
    have b4 := hb a4 (by simp)
    have b5 := hb a5 (by simp)
    have b6 := hb a6 (by simp)
    have b7 := hb a7 (by simp)
    have e : ∀ a : Int, 0 ≤ a ∧ a ≤ 255 → ∃ n : Nat, (UInt8.ofNat a.toNat).toNat = n ∧ a = (n : Int) := fun a h => ⟨a.toNat, by
      rw [UInt8.toNat_ofNat', Nat.mod_eq_of_lt (by omega)], by omega⟩
    obtain ⟨n0, h0, e0⟩ := e a0 b0
    obtain ⟨n1, h1, e1⟩ := e a1 b1
    obtain ⟨n2, h2, e2⟩ := e a2 b2
    obtain ⟨n3, h3, e3⟩ := e a3 b3
    obtain ⟨n4, h4, e4⟩ := e a4 b4
    obtain ⟨n5, h5, e5⟩ := e a5 b5
    obtain ⟨n6, h6, e6⟩ := e a6 b6
    obtain ⟨n7, h7, e7⟩ := e a7 b7
    have hv : le8 (a0 :: a1 :: a2 :: a3 :: a4 :: a5 :: a6 :: a7 :: r) = n0 + 256 * (n1 + 256 * (n2 + 256 * (n3 + 256 * (n4 + 256 * (n5 + 256 * (n6 + 256 * (n7 + 256 * 0))))))) := by
      show Lib.leNat [UInt8.ofNat a0.toNat, UInt8.ofNat a1.toNat, UInt8.ofNat a2.toNat, UInt8.ofNat a3.toNat, UInt8.ofNat a4.toNat, UInt8.ofNat a5.toNat, UInt8.ofNat a6.toNat, UInt8.ofNat a7.toNat] = _
      simp only [Lib.leNat]
      rw [h0, h1, h2, h3, h4, h5, h6, h7]

    rw [hv]
    show _ = a0 + a1 * 256 + a2 * 65536 + a3 * 16777216 + a4 * 4294967296 + a5 * 1099511627776 + a6 * 281474976710656 + a7 * 72057594037927936
    omega
theorem join_low (l : List Int) (a b : Nat) (h1 : ∀ j, j < a → l.getD j 0 < 128) (h2 : ∀ j, j < b → (l.drop a).getD j 0 < 128) : ∀ j, j < a + b → l.getD j 0 < 128 := by
  intro j hj
  by_cases h : j < a
  · exact h1 j h
  · have := h2 (j - a) (by omega)
    simpa [List.getD, List.getElem?_drop, show a + (j - a) = j by omega] using this
theorem two_low (l : List Int) (h : 16 ≤ l.length) (hb : St.bts l) (hz : (le8 l ||| le8 (l.drop 8)) &&& 9259542123273814144 = 0) : ∀ j, j < 16 → l.getD j 0 < 128 := by
  obtain ⟨e1, e2⟩ := (Lib.or_mask _ _ _).1 hz
  exact join_low l 8 8 (le8_low l (by omega) hb e1) (le8_low _ (by simp; omega) (fun x hx => hb x (List.mem_of_mem_drop hx)) e2)
theorem four_low (l : List Int) (h : 32 ≤ l.length) (hb : St.bts l) (hz : ((le8 l ||| le8 (l.drop 8)) ||| (le8 (l.drop 16) ||| le8 (l.drop 24))) &&& 9259542123273814144 = 0) : ∀ j, j < 32 → l.getD j 0 < 128 := by
  obtain ⟨e1, e2⟩ := (Lib.or_mask _ _ _).1 hz
  refine join_low l 16 16 (two_low l (by omega) hb e1) ?_
  refine two_low (l.drop 16) (by simp; omega) (fun x hx => hb x (List.mem_of_mem_drop hx)) ?_
  rw [List.drop_drop]
  exact e2
theorem bad_false (l : List Int) (h : l ≠ []) (h0 : 128 ≤ l.getD 0 0) (hb : bad l) : utf8 l = false := by
  have hp : pt l = 0 := by unfold pt; rw [if_neg (by omega), if_pos hb]
  rw [utf8_step l h, if_pos hp]
theorem good_drop (l : List Int) (h : l ≠ []) (h0 : 128 ≤ l.getD 0 0) (hb : ¬ bad l) : utf8 l = utf8 (l.drop (cnt (l.getD 0 0))) := by
  have hp : pt l = cnt (l.getD 0 0) := by unfold pt; rw [if_neg (by omega), if_neg hb]
  have hc : cnt (l.getD 0 0) ≠ 0 := fun e => hb (.inl e)
  rw [utf8_step l h, if_neg (by rw [hp]; exact hc), hp]
theorem low_drop (l : List Int) (h : 0 < l.length) (h0 : l.getD 0 0 < 128) : utf8 l = utf8 (l.drop 1) := utf8_skip 1 l fun j hj => by
  obtain rfl : j = 0 := by omega
  exact h0
end Go.Proofs.YthknkdphofjmhaaDoor.U8
/- The walk of unicode/utf8.word at bytes. -/
namespace Go.Proofs.YthknkdphofjmhaaDoor.U8W
open Go.RowKit Wd Cb

set_option maxHeartbeats 8000000 in
set_option maxRecDepth 100000 in
theorem word_any (A : Option Addr) (B c : Nat) (l : List Int) (w : World) (hs : Lst w B A (u8s l)) (h8 : 8 ≤ l.length) (hb : St.bts l) :
    Calls Tryd.prog 107 #[.slice A l.length c] w fun e w' => e = .returned (.int .u64 (U8.le8 l)) ∧ ∃ q, w' = w.drewN q := by
  obtain ⟨b, o, rfl, hlt, hc⟩ := hs.bytes (k := 0) (by omega)
  have hx : ∀ j, j < 8 → 0 ≤ l.getD j 0 ∧ l.getD j 0 ≤ 255 := fun j hj => hb _ (by simp [List.getD, List.getElem?_eq_getElem (show j < l.length by omega)])
  have hv := U8.le8_val l h8 hb
  have c0 : w.cell? ⟨b, o, none⟩ = some (.int .u8 (l.getD 0 0)) := by simpa using hc 0 (by omega)
  have c1 := hc 1 (by omega)
  have c2 := hc 2 (by omega)
  have c3 := hc 3 (by omega)
  have c4 := hc 4 (by omega)
  have c5 := hc 5 (by omega)
  have c6 := hc 6 (by omega)
  have c7 := hc 7 (by omega)
  have b0 := hx 0 (by omega)
  have b1 := hx 1 (by omega)
  have b2 := hx 2 (by omega)
  have b3 := hx 3 (by omega)
  have b4 := hx 4 (by omega)
  have b5 := hx 5 (by omega)
  have b6 := hx 6 (by omega)
  have b7 := hx 7 (by omega)
  clear hc hs hx hb
  generalize l.getD 0 0 = x0 at *
  generalize l.getD 1 0 = x1 at *
  generalize l.getD 2 0 = x2 at *
  generalize l.getD 3 0 = x3 at *
  generalize l.getD 4 0 = x4 at *
  generalize l.getD 5 0 = x5 at *
  generalize l.getD 6 0 = x6 at *
  generalize l.getD 7 0 = x7 at *
  generalize U8.le8 l = V at *
  have HV := Lib.hid hv
  clear hv
  have q0 : (0 : Int) < (l.length : Int) := by omega
  have q1 : (1 : Int) < (l.length : Int) := by omega
  have q2 : (2 : Int) < (l.length : Int) := by omega
  have q3 : (3 : Int) < (l.length : Int) := by omega
  have q4 : (4 : Int) < (l.length : Int) := by omega
  have q5 : (5 : Int) < (l.length : Int) := by omega
  have q6 : (6 : Int) < (l.length : Int) := by omega
  have q7 : (7 : Int) < (l.length : Int) := by omega
  go_enter Tryd.func107, Tryd.ntmps107
  go_wp2
  go_quiet (fail)
  go_wp2
  go_ret
  refine ⟨?_, _, rfl⟩
  have e1 : bits .or .u64 x0 (x1 * 256) = x0 + x1 * 256 := u64_or8 _ _ (by omega) (by omega) (by omega) (by omega) (by omega)
  have e2 : bits .or .u64 (x0 + x1 * 256) (x2 * 65536) = x0 + x1 * 256 + x2 * 65536 := u64_or16 _ _ (by omega) (by omega) (by omega) (by omega) (by omega)
  have e3 : bits .or .u64 (x0 + x1 * 256 + x2 * 65536) (x3 * 16777216) = x0 + x1 * 256 + x2 * 65536 + x3 * 16777216 := u64_or24 _ _ (by omega) (by omega) (by omega) (by omega) (by omega)
  have e4 : bits .or .u64 (x0 + x1 * 256 + x2 * 65536 + x3 * 16777216) (x4 * 4294967296) = x0 + x1 * 256 + x2 * 65536 + x3 * 16777216 + x4 * 4294967296 := u64_or32 _ _ (by omega) (by omega) (by omega) (by omega) (by omega)
  have e5 : bits .or .u64 (x0 + x1 * 256 + x2 * 65536 + x3 * 16777216 + x4 * 4294967296) (x5 * 1099511627776) = x0 + x1 * 256 + x2 * 65536 + x3 * 16777216 + x4 * 4294967296 + x5 * 1099511627776 := u64_or40 _ _ (by omega) (by omega) (by omega) (by omega) (by omega)
  have e6 : bits .or .u64 (x0 + x1 * 256 + x2 * 65536 + x3 * 16777216 + x4 * 4294967296 + x5 * 1099511627776) (x6 * 281474976710656) = x0 + x1 * 256 + x2 * 65536 + x3 * 16777216 + x4 * 4294967296 + x5 * 1099511627776 + x6 * 281474976710656 := u64_or48 _ _ (by omega) (by omega) (by omega) (by omega) (by omega)
  have e7 : bits .or .u64 (x0 + x1 * 256 + x2 * 65536 + x3 * 16777216 + x4 * 4294967296 + x5 * 1099511627776 + x6 * 281474976710656) (x7 * 72057594037927936) = x0 + x1 * 256 + x2 * 65536 + x3 * 16777216 + x4 * 4294967296 + x5 * 1099511627776 + x6 * 281474976710656 + x7 * 72057594037927936 := u64_or56 _ _ (by omega) (by omega) (by omega) (by omega) (by omega)
  refine Wd.ret_int (k := .u64) ?_
  rw [e1, e2, e3, e4, e5, e6, e7, HV.out]
theorem word_n (A : Option Addr) (B c n : Nat) (l : List Int) (w : World) (hn : l.length = n) (hs : Lst w B A (u8s l)) (h8 : 8 ≤ l.length) (hb : St.bts l) :
    Calls Tryd.prog 107 #[.slice A n c] w fun e w' => e = .returned (.int .u64 (U8.le8 l)) ∧ ∃ q, w' = w.drewN q := by
  subst hn
  exact word_any A B c l w hs h8 hb
end Go.Proofs.YthknkdphofjmhaaDoor.U8W
