/- Texts of my own, laid together: EidOrd, EidEq. -/
import Derived.Test.YthknkdphofjmhaaDoorZg2
import Derived.Test.YthknkdphofjmhaaDoorAlive04
import Derived.Deep.CutBlock
import Derived.Deep.RegionHeld3
/- The order of names, plain. -/
namespace Go.Proofs.YthknkdphofjmhaaDoor.Eid
open Go.RowKit Wd

/-- What three comparisons of three things have in common. -/
def Tri (a b c : Int) : Prop := (a = 0 → c = b) ∧ (b = 0 → c = a) ∧ (a < 0 → b < 0 → c < 0)
theorem tri_or {a b c : Int} {l m n : List Int} (h : Tri a b c) (ha : a = -1 ∨ a = 0 ∨ a = 1) (hb : b = -1 ∨ b = 0 ∨ b = 1) (k : Tri (or1 l) (or1 m) (or1 n)) : Tri (or1 (a :: l)) (or1 (b :: m)) (or1 (c :: n)) := by
  obtain ⟨h1, h2, h3⟩ := h
  obtain ⟨k1, k2, k3⟩ := k
  simp only [or1, Tri]
  by_cases a0 : a = 0
  · have hc := h1 a0
    subst hc
    rw [if_pos a0]
    by_cases b0 : c = 0
    · rw [if_pos b0, if_pos b0]
      exact ⟨k1, k2, k3⟩
    · rw [if_neg b0, if_neg b0]
      exact ⟨fun _ => rfl, fun h => absurd h b0, fun _ h => h⟩
  · rw [if_neg a0]
    by_cases b0 : b = 0
    · have hc := h2 b0
      subst hc
      rw [if_pos b0, if_neg a0]
      exact ⟨fun h => absurd h a0, fun _ => rfl, fun h _ => h⟩
    · rw [if_neg b0]
      refine ⟨fun h => absurd h a0, fun h => absurd h b0, fun x y => ?_⟩
      have := h3 x y
      rw [if_neg (by omega)]
      exact this
theorem int_range (x y : Int) : Lib.compareInt x y = -1 ∨ Lib.compareInt x y = 0 ∨ Lib.compareInt x y = 1 := by
  unfold Lib.compareInt
  split
  · exact .inl rfl
  · split
    · exact .inr (.inr rfl)
    · exact .inr (.inl rfl)
theorem cI_eq (x y : Int) : cI x y = Lib.compareInt x y := rfl
theorem int_tri (x y z : Int) : Tri (Lib.compareInt x y) (Lib.compareInt y z) (Lib.compareInt x z) := by
  unfold Tri Lib.compareInt
  refine ⟨?_, ?_, ?_⟩ <;> (repeat' split) <;> omega
theorem int_swap (x y : Int) : Lib.compareInt y x = - Lib.compareInt x y := by
  unfold Lib.compareInt
  (repeat' split) <;> omega
theorem int_zero {x y : Int} (h : Lib.compareInt x y = 0) : x = y := by
  unfold Lib.compareInt at h
  split at h
  · omega
  · split at h <;> omega
theorem bytes_range : ∀ (x y : List UInt8), Lib.compareBytes x y = -1 ∨ Lib.compareBytes x y = 0 ∨ Lib.compareBytes x y = 1
  | [], [] => .inr (.inl rfl)
  | [], _ :: _ => .inl rfl
  | _ :: _, [] => .inr (.inr rfl)
  | a :: x, b :: y => by
    unfold Lib.compareBytes
    split
    · exact .inl rfl
    · split
      · exact .inr (.inr rfl)
      · exact bytes_range x y
theorem bytes_cons (a b : UInt8) (x y : List UInt8) : Lib.compareBytes (a :: x) (b :: y) = or1 [Lib.compareInt a.toNat b.toNat, Lib.compareBytes x y] := by
  simp only [Lib.compareBytes, or1, UInt8.lt_iff_toNat_lt]
  by_cases h1 : a.toNat < b.toNat
  · rw [if_pos h1, show Lib.compareInt a.toNat b.toNat = -1 by unfold Lib.compareInt; rw [if_pos (by omega)]]
    rfl
  · rw [if_neg h1]
    by_cases h2 : b.toNat < a.toNat
    · rw [if_pos h2, show Lib.compareInt a.toNat b.toNat = 1 by unfold Lib.compareInt; rw [if_neg (by omega), if_pos (by omega)]]
      rfl
    · rw [if_neg h2, show Lib.compareInt a.toNat b.toNat = 0 by unfold Lib.compareInt; rw [if_neg (by omega), if_neg (by omega)], if_pos rfl]
      by_cases h3 : Lib.compareBytes x y = 0
      · rw [if_pos h3, h3]
      · rw [if_neg h3]
theorem or1_one (a : Int) : or1 [a] = a := by
  unfold or1
  split
  · rename_i h; rw [h]; rfl
  · rfl
theorem bytes_tri : ∀ (x y z : List UInt8), Tri (Lib.compareBytes x y) (Lib.compareBytes y z) (Lib.compareBytes x z)
  | [], [], z => by
    refine ⟨fun _ => rfl, fun h => h, fun h => ?_⟩
    exact absurd h (by simp [Lib.compareBytes])
  | [], b :: y, [] => by simp [Tri, Lib.compareBytes]
  | [], b :: y, c :: z => by
    refine ⟨fun h => absurd h (by simp [Lib.compareBytes]), fun _ => rfl, fun _ _ => by simp [Lib.compareBytes]⟩
  | a :: x, [], z => by
    refine ⟨fun h => absurd h (by simp [Lib.compareBytes]), fun h => ?_, fun h => absurd h (by simp [Lib.compareBytes])⟩
    cases z
    · rfl
    · simp [Lib.compareBytes] at h
  | a :: x, b :: y, [] => by
    refine ⟨fun h => rfl, fun h => absurd h (by simp [Lib.compareBytes]), fun _ h => absurd h (by simp [Lib.compareBytes])⟩
  | a :: x, b :: y, c :: z => by
    rw [bytes_cons, bytes_cons, bytes_cons]
    refine tri_or (int_tri _ _ _) (int_range _ _) (int_range _ _) ?_
    rw [or1_one, or1_one, or1_one]
    exact bytes_tri x y z
theorem bytes_swap : ∀ (x y : List UInt8), Lib.compareBytes y x = - Lib.compareBytes x y
  | [], [] => rfl
  | [], _ :: _ => rfl
  | _ :: _, [] => rfl
  | a :: x, b :: y => by
    rw [bytes_cons, bytes_cons]
    simp only [or1]
    rw [int_swap (a.toNat : Int) b.toNat, bytes_swap x y]
    by_cases h : Lib.compareInt a.toNat b.toNat = 0
    · rw [if_pos h, if_pos (by omega)]
      by_cases k : Lib.compareBytes x y = 0
      · rw [if_pos k, if_pos (by omega)]; rfl
      · rw [if_neg k, if_neg (by omega)]
    · rw [if_neg h, if_neg (by omega)]
theorem bytes_zero : ∀ {x y : List UInt8}, Lib.compareBytes x y = 0 → x = y
  | [], [], _ => rfl
  | [], _ :: _, h => by simp [Lib.compareBytes] at h
  | _ :: _, [], h => by simp [Lib.compareBytes] at h
  | a :: x, b :: y, h => by
    rw [bytes_cons] at h
    simp only [or1] at h
    by_cases k : Lib.compareInt a.toNat b.toNat = 0
    · rw [if_pos k] at h
      have hab := int_zero k
      have hxy : Lib.compareBytes x y = 0 := by
        split at h
        · assumption
        · exact h
      rw [bytes_zero hxy, show a = b from UInt8.toNat_inj.1 (by omega)]
    · rw [if_neg k] at h
      exact absurd h k

theorem ord_tri (x y z : Nm) : Tri (ord x y) (ord y z) (ord x z) := by
  unfold ord
  refine tri_or (int_tri _ _ _) (int_range _ _) (int_range _ _) (tri_or (int_tri _ _ _) (int_range _ _) (int_range _ _) (tri_or (int_tri _ _ _) (int_range _ _) (int_range _ _) (tri_or (bytes_tri _ _ _) (bytes_range _ _) (bytes_range _ _) ?_)))
  rw [or1_one, or1_one, or1_one]
  exact bytes_tri _ _ _
theorem or1_swap : ∀ (l : List Int), or1 (l.map fun x => -x) = - or1 l
  | [] => rfl
  | a :: l => by
    simp only [List.map_cons, or1]
    by_cases h : a = 0
    · rw [if_pos h, if_pos (by omega), or1_swap l]
    · rw [if_neg h, if_neg (by omega)]
theorem ord_swap (x y : Nm) : ord y x = - ord x y := by
  unfold ord
  have h := or1_swap [Lib.compareInt (kd x) (kd y), cI x.node y.node, cI x.service y.service, Lib.compareBytes x.host.data.toList y.host.data.toList, Lib.compareBytes x.demux.data.toList y.demux.data.toList]
  rw [← h]
  simp only [List.map_cons, List.map_nil, cI_eq]
  rw [int_swap (kd x), int_swap x.node, int_swap x.service, bytes_swap x.host.data.toList, bytes_swap x.demux.data.toList]
theorem or1_zero : ∀ {l : List Int}, or1 l = 0 → ∀ a ∈ l, a = 0
  | [], _, a, h => by simp at h
  | b :: l, h, a, ha => by
    simp only [or1] at h
    by_cases k : b = 0
    · rw [if_pos k] at h
      rcases List.mem_cons.1 ha with rfl | h2
      · exact k
      · exact or1_zero h a h2
    · rw [if_neg k] at h
      exact absurd h k
theorem ba_inj {a b : ByteArray} (h : a.data.toList = b.data.toList) : a = b := by
  obtain ⟨⟨x⟩⟩ := a
  obtain ⟨⟨y⟩⟩ := b
  replace h : x = y := h
  rw [h]
theorem kd_ipn_iff (x : Nm) : x.ipn = true ↔ kd x = 1 := by
  unfold kd
  cases x.ipn
  · simp only [Bool.false_eq_true, if_false, false_iff]
    split <;> omega
  · simp
theorem ord_zero {x y : Nm} : ord x y = 0 ↔ x = y := by
  constructor
  · intro h
    unfold ord at h
    have h0 := or1_zero h
    have a1 := int_zero (h0 _ (List.mem_cons_self ..))
    have a2 := int_zero (h0 (cI x.node y.node) (by simp))
    have a3 := int_zero (h0 (cI x.service y.service) (by simp))
    have a4 := ba_inj (bytes_zero (h0 (Lib.compareBytes x.host.data.toList y.host.data.toList) (by simp)))
    have a5 := ba_inj (bytes_zero (h0 (Lib.compareBytes x.demux.data.toList y.demux.data.toList) (by simp)))
    have a6 : x.ipn = y.ipn := by
      rw [Bool.eq_iff_iff, kd_ipn_iff, kd_ipn_iff, a1]
    obtain ⟨x1, x2, x3, x4, x5⟩ := x
    obtain ⟨y1, y2, y3, y4, y5⟩ := y
    simp only at a2 a3 a4 a5 a6
    subst a2 a3 a4 a5 a6
    rfl
  · rintro rfl
    have := ord_swap x x
    omega
/-- Is a name less than another one? -/
def ls (x y : Nm) : Bool := decide (ord x y < 0)
theorem ls_self (x : Nm) : ls x x = false := by
  unfold ls
  rw [ord_zero.2 rfl]
  rfl
theorem ls_one (x y : Nm) (h : x ≠ y) : (ls x y != ls y x) = true := by
  have h0 : ord x y ≠ 0 := fun e => h (ord_zero.1 e)
  unfold ls
  rw [ord_swap x y]
  by_cases k : ord x y < 0
  · rw [decide_eq_true k, decide_eq_false (by omega)]; rfl
  · rw [decide_eq_false k, decide_eq_true (by omega)]; rfl
theorem ls_both (x y : Nm) : (ls x y && ls y x) = false := by
  unfold ls
  rw [ord_swap x y]
  by_cases k : ord x y < 0
  · rw [decide_eq_true k, decide_eq_false (by omega)]; rfl
  · rw [decide_eq_false k]; rfl
theorem ls_trans (x y z : Nm) (h1 : ls x y = true) (h2 : ls y z = true) : ls x z = true := by
  unfold ls at *
  rw [decide_eq_true_eq] at *
  exact (ord_tri x y z).2.2 h1 h2
theorem cmpI_neg (a b : Int) : (Lib.compareInt a b < 0) ↔ a < b := by
  unfold Lib.compareInt
  split
  · omega
  · split <;> omega
theorem cmpI_zero (a b : Int) : Lib.compareInt a b = 0 ↔ a = b := ⟨int_zero, by rintro rfl; unfold Lib.compareInt; rw [if_neg (by omega), if_neg (by omega)]⟩
theorem or1_skip {a : Int} {l : List Int} (h : a = 0) : or1 (a :: l) = or1 l := by simp only [or1]; rw [if_pos h]
theorem or1_take {a : Int} {l : List Int} (h : a ≠ 0) : or1 (a :: l) = a := by simp only [or1]; rw [if_neg h]
end Go.Proofs.YthknkdphofjmhaaDoor.Eid
/- The statement EidOrder: its walk. -/
namespace Go.Proofs.YthknkdphofjmhaaDoor.Eid
open Go.RowKit Wd

/-- Are two names one? -/
def nmEq (x y : Nm) : Bool := x.ipn == y.ipn && (x.node == y.node && (x.service == y.service && (x.host.toList == y.host.toList && x.demux.toList == y.demux.toList)))
theorem nmEq_iff (x y : Nm) : nmEq x y = true ↔ x = y := by
  obtain ⟨a1, a2, a3, a4, a5⟩ := x
  obtain ⟨b1, b2, b3, b4, b5⟩ := y
  simp only [nmEq, Bool.and_eq_true, beq_iff_eq, Nm.mk.injEq]
  constructor
  · rintro ⟨h1, h2, h3, h4, h5⟩
    exact ⟨h1, h2, h3, ba_inj (by rw [Lib.toList_data, Lib.toList_data] at h4; exact h4), ba_inj (by rw [Lib.toList_data, Lib.toList_data] at h5; exact h5)⟩
  · rintro ⟨rfl, rfl, rfl, rfl, rfl⟩
    exact ⟨rfl, rfl, rfl, rfl, rfl⟩
theorem nmEq_self (x : Nm) : nmEq x x = true := (nmEq_iff x x).2 rfl
set_option maxHeartbeats 1000000 in
theorem run_nm (w : World) (d : Nat) (i1 i2 : Bool) (n1 s1 n2 s2 : Int) (h1 d1 h2 d2 : ByteArray) :
    (Op.equalIn (d + 2) 48 (.agg #[.bool i1, .int .u64 n1, .int .u64 s1, .string h1, .string d1]) (.agg #[.bool i2, .int .u64 n2, .int .u64 s2, .string h2, .string d2])).run Tryd.prog w = .ok (nmEq ⟨i1, n1, s1, h1, d1⟩ ⟨i2, n2, s2, h2, d2⟩) w := by
  rw [run_equalIn_struct w (d + 1) 48 _ _ (by kernel_rfl) (by kernel_rfl)]
  simp only [Program.fieldsOf, Tryd.underlying48]
  unfold nmEq
  cases e1 : (i1 == i2) <;> cases e2 : (n1 == n2) <;> cases e3 : (s1 == s2) <;> cases e4 : (h1.toList == h2.toList) <;> cases e5 : (d1.toList == d2.toList) <;> go_simp
end Go.Proofs.YthknkdphofjmhaaDoor.Eid
