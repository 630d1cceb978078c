/- Names: what a name is, its kind; the contracts of eid.kind, rightNumbers. -/
import Derived.Test.YtbgcbcnidjlhnaaDoorProg
import Derived.Test.YtbgcbcnidjlhnaaDoorWords
import Derived.Test.YtbgcbcnidjlhnaaDoorStr
import Derived.Test.YtbgcbcnidjlhnaaDoorShelf
import Derived.WalkKit
import Derived.WalkSpells
import Derived.Lib.Hide
import Derived.Outline
import Derived.Laws.StructEq
import Derived.Laws.Pointers
namespace Go.Proofs.YtbgcbcnidjlhnaaDoor.Eid
open Go.RowKit Wd

/-- A name. -/
structure Nm where
  ipn : Bool
  node : Int
  service : Int
  host : ByteArray
  demux : ByteArray
/-- Its bounds. -/
structure Nm.ok (x : Nm) : Prop where
  n0 : 0 ≤ x.node
  n1 : x.node ≤ 18446744073709551615
  s0 : 0 ≤ x.service
  s1 : x.service ≤ 18446744073709551615
  h : x.host.size ≤ maxLen
  d : x.demux.size ≤ maxLen
abbrev Nm.cells (x : Nm) : Array Value := #[.bool x.ipn, .int .u64 x.node, .int .u64 x.service, .string x.host, .string x.demux]
abbrev Nm.val (x : Nm) : Value := .agg x.cells
/-- The kind of a name. -/
def kd (x : Nm) : Int := if x.ipn then 1 else if x.node = 0 ∧ x.service = 0 ∧ x.host.toList = [] ∧ x.demux.toList = [] then 0 else 2

set_option maxHeartbeats 1000000 in
theorem kind_any (x : Nm) (w : World) : Calls Tryd.prog 64 #[x.val] w fun e w' => e = .returned (.int .i64 (kd x)) ∧ Below w.heap.size w w' := by
  obtain ⟨i, n, s, h, d⟩ := x
  have HB := Lib.hid (fun (o : Obj) => (Below.refl w.heap.size w).alloc (Nat.le_refl _) o)
  go_enter Tryd.func64, Tryd.ntmps64
  cases i
  · go_wp2_with fail
    all_goals
      go_ret
      refine ⟨?_, HB.out _⟩
      simp_all [kd]
      try rfl
  · go_wp2_with fail
    go_ret
    exact ⟨rfl, HB.out _⟩

/-- May the numbers of a name be? -/
def rn (x : Nm) : Bool := decide (1 ≤ x.node) && decide (x.node ≤ 4294967295) && decide (x.service ≤ 4294967295)
set_option maxHeartbeats 1000000 in
theorem rightNumbers_any (x : Nm) (w : World) : Calls Tryd.prog 65 #[x.val] w fun e w' => e = .returned (.bool (rn x)) ∧ Below w.heap.size w w' := by
  obtain ⟨i, n, s, h, d⟩ := x
  have HB := Lib.hid (fun (o : Obj) => (Below.refl w.heap.size w).alloc (Nat.le_refl _) o)
  go_enter Tryd.func65, Tryd.ntmps65
  by_cases h1 : 1 ≤ n
  · have t1 : decide (1 ≤ n) = true := decide_eq_true h1
    by_cases h2 : n ≤ 4294967295
    · have t2 : decide (n ≤ 4294967295) = true := decide_eq_true h2
      go_wp2_with fail
      go_ret
      exact ⟨ret_bool (by unfold rn; rw [t1, t2]; simp), HB.out _⟩
    · have t2 : decide (n ≤ 4294967295) = false := decide_eq_false h2
      go_wp2_with fail
      go_ret
      exact ⟨ret_bool (by unfold rn; rw [t2]; simp), HB.out _⟩
  · have t1 : decide (1 ≤ n) = false := decide_eq_false h1
    go_wp2_with fail
    go_ret
    exact ⟨ret_bool (by unfold rn; rw [t1]; simp), HB.out _⟩

theorem isNaN_any (x : Int) (w : World) : Calls Tryd.prog 84 #[.int .u64 x] w fun e w' => e = .returned (.bool false) ∧ w' = w := by
  go_enter Tryd.func84, Tryd.ntmps84
  go_wp2_with fail
  go_ret
  exact ⟨rfl, rfl⟩
/-- How two numbers compare. -/
def cI (x y : Int) : Int := if x < y then -1 else if y < x then 1 else 0
set_option maxHeartbeats 1000000 in
theorem compare_any (x y : Int) (w : World) : Calls Tryd.prog 55 #[.int .u64 x, .int .u64 y] w fun e w' => e = .returned (.int .i64 (cI x y)) ∧ w' = w := by
  go_enter Tryd.func55, Tryd.ntmps55
  go_wp2_with fail
  refine (isNaN_any x w).mono ?_
  rintro e w1 ⟨rfl, rfl⟩
  go_wp2_with fail
  refine (isNaN_any y _).mono ?_
  rintro e w1 ⟨rfl, rfl⟩
  by_cases h1 : x < y
  · have t1 : decide (x < y) = true := decide_eq_true h1
    have HC := Lib.hid (show cI x y = -1 by unfold cI; rw [if_pos h1])
    go_wp2_with fail
    go_ret
    exact ⟨by rw [HC.out]; rfl, rfl⟩
  · have t1 : decide (x < y) = false := decide_eq_false h1
    by_cases h2 : y < x
    · have t2 : decide (y < x) = true := decide_eq_true h2
      have HC := Lib.hid (show cI x y = 1 by unfold cI; rw [if_neg h1, if_pos h2])
      go_wp2_with fail
      go_ret
      exact ⟨by rw [HC.out]; rfl, rfl⟩
    · have t2 : decide (y < x) = false := decide_eq_false h2
      have HC := Lib.hid (show cI x y = 0 by unfold cI; rw [if_neg h1, if_neg h2])
      go_wp2_with fail
      go_ret
      exact ⟨by rw [HC.out]; rfl, rfl⟩

/-- The first number that is not 0. -/
def or1 : List Int → Int
  | [] => 0
  | x :: l => if x = 0 then or1 l else x
set_option maxHeartbeats 1000000 in
theorem or_any (l : List Int) (g c : Nat) (w : World) (hc : ∀ (j : Nat) (h : j < l.length), w.cell? ⟨g, j, none⟩ = some (.int .i64 l[j])) (hl : l.length ≤ 1000) :
    Calls Tryd.prog 54 #[.slice (some ⟨g, 0, none⟩) l.length c] w fun e w' => e = .returned (.int .i64 (or1 l)) ∧ w' = w := by
  have HC := Lib.hid hc
  clear hc
  go_enter Tryd.func54, Tryd.ntmps54
  go_wp2_with fail
  go_loopw [5, 8] (fun _ i wr => ∃ k : Nat, k ≤ l.length ∧ i = .int .i64 k ∧ Hid (or1 (l.drop k) = or1 l) ∧ Hid (wr = w)) (fun _ i _ => l.length - (intOf i).toNat)
  case atStart => exact ⟨0, by omega, rfl, Lib.hid (by simp), Lib.hid rfl⟩
  case round =>
    obtain ⟨k, hk, rfl, HO, HW⟩ := hrel
    by_cases hlt : k < l.length
    · have e0 : wr.cell? ⟨g, k, none⟩ = some (.int .i64 l[k]) := by rw [HW.out]; exact HC.out k hlt
      have j0 : (0 : Int) ≤ (k : Int) := by omega
      have j1 : (k : Int) < (l.length : Int) := by omega
      have c0 : decide ((k : Int) < (l.length : Int)) = true := decide_eq_true j1
      have hd := List.drop_eq_getElem_cons hlt
      by_cases hz : l[k] = 0
      · have z0 : (l[k] != 0) = false := by simpa using hz
        have HN : Hid (or1 (l.drop (k + 1)) = or1 l) := Lib.hid (by rw [← HO.out, hd, or1, if_pos hz])
        clear hd hz
        go_wp2_with fail
        go_roundw
        case rel => exact ⟨k + 1, by omega, by go_num, HN, HW⟩
        case measure => simp [intOf]; omega
      · have z0 : (l[k] != 0) = true := by simpa using hz
        have HN : Hid (or1 l = l[k]) := Lib.hid (by rw [← HO.out, hd, or1, if_neg hz])
        clear hd hz
        go_wp2_with fail
        go_ret
        exact ⟨by rw [HN.out]; rfl, HW.out⟩
    · obtain rfl : k = l.length := by omega
      have c0 : decide ((l.length : Int) < (l.length : Int)) = false := decide_eq_false (by omega)
      have HN : Hid (or1 l = 0) := Lib.hid (by rw [← HO.out, List.drop_length]; rfl)
      go_wp2_with fail
      go_ret
      exact ⟨by rw [HN.out]; rfl, HW.out⟩
end Go.Proofs.YtbgcbcnidjlhnaaDoor.Eid
