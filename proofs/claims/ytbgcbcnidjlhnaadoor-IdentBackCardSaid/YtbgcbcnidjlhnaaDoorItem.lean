/- Items as plain data: number, bytes, text, list; their size and depth. No program is named here. -/
import Derived.Test.YtbgcbcnidjlhnaaDoorStr
namespace Go.Proofs.YtbgcbcnidjlhnaaDoor.Cb

/-- An item: its kind, number, bytes, list. -/
inductive Itm where
  | mk (kind n : Int) (b : List Int) (l : List Itm)

namespace Itm
def kind : Itm → Int | .mk k _ _ _ => k
def num : Itm → Int | .mk _ n _ _ => n
def bs : Itm → List Int | .mk _ _ b _ => b
def sub : Itm → List Itm | .mk _ _ _ l => l
end Itm
theorem eta (x : Itm) : x = .mk x.kind x.num x.bs x.sub := by cases x; rfl

mutual
/-- How many items there are. -/
def size : Itm → Nat
  | .mk _ _ _ l => 1 + sizes l
def sizes : List Itm → Nat
  | [] => 0
  | x :: l => size x + sizes l
end
mutual
/-- How deep it goes. -/
def deep : Itm → Nat
  | .mk _ _ _ l => 1 + deeps l
def deeps : List Itm → Nat
  | [] => 0
  | x :: l => max (deep x) (deeps l)
end
mutual
/-- Are two equal? -/
def same : Itm → Itm → Bool
  | .mk k n b l, .mk k' n' b' l' => k == k' && n == n' && b == b' && sames l l'
def sames : List Itm → List Itm → Bool
  | [], [] => true
  | x :: l, y :: m => same x y && sames l m
  | _, _ => false
end
mutual
theorem same_iff : ∀ (x y : Itm), same x y = true ↔ x = y
  | .mk k n b l, .mk k' n' b' l' => by
    simp only [same, Bool.and_eq_true, beq_iff_eq, sames_iff l l', Itm.mk.injEq, and_assoc]
theorem sames_iff : ∀ (l m : List Itm), sames l m = true ↔ l = m
  | [], [] => by simp [sames]
  | [], _ :: _ => by simp [sames]
  | _ :: _, [] => by simp [sames]
  | x :: l, y :: m => by simp only [sames, Bool.and_eq_true, same_iff x y, sames_iff l m, List.cons.injEq]
end
theorem same_self (x : Itm) : same x x = true := (same_iff x x).2 rfl
theorem size_pos (x : Itm) : 1 ≤ size x := by cases x; simp [size]
theorem deep_pos (x : Itm) : 1 ≤ deep x := by cases x; simp [deep]
theorem size_sub (x : Itm) : size x = 1 + sizes x.sub := by cases x; rfl
theorem deep_sub (x : Itm) : deep x = 1 + deeps x.sub := by cases x; rfl
theorem sizes_append : ∀ (l m : List Itm), sizes (l ++ m) = sizes l + sizes m
  | [], m => by simp [sizes]
  | x :: l, m => by simp [sizes, sizes_append l m]; omega
theorem deeps_append : ∀ (l m : List Itm), deeps (l ++ m) = max (deeps l) (deeps m)
  | [], m => by simp [deeps]
  | x :: l, m => by simp only [List.cons_append, deeps, deeps_append l m]; omega
theorem length_le_sizes : ∀ (l : List Itm), l.length ≤ sizes l
  | [] => by simp
  | x :: l => by have := size_pos x; have := length_le_sizes l; simp [sizes]; omega
theorem take_snoc (l : List Itm) (k : Nat) (h : k < l.length) : l.take (k + 1) = l.take k ++ [l[k]] := List.take_succ_eq_append_getElem h
theorem sizes_snoc (l : List Itm) (k : Nat) (h : k < l.length) : sizes (l.take (k + 1)) = sizes (l.take k) + size l[k] := by
  rw [take_snoc l k h, sizes_append]; simp [sizes]
theorem deeps_snoc (l : List Itm) (k : Nat) (h : k < l.length) : deeps (l.take (k + 1)) = max (deeps (l.take k)) (deep l[k]) := by
  rw [take_snoc l k h, deeps_append]; simp [deeps]
theorem sizes_take_le (l : List Itm) (k : Nat) : sizes (l.take k) ≤ sizes l := by
  have h := sizes_append (l.take k) (l.drop k)
  rw [List.take_append_drop] at h
  omega
theorem deeps_take_le (l : List Itm) (k : Nat) : deeps (l.take k) ≤ deeps l := by
  have h := deeps_append (l.take k) (l.drop k)
  rw [List.take_append_drop] at h
  omega
theorem size_at (l : List Itm) (k : Nat) (h : k < l.length) : size l[k] ≤ sizes l := by
  have h1 := sizes_snoc l k h
  have h2 := sizes_take_le l (k + 1)
  omega
theorem deep_at (l : List Itm) (k : Nat) (h : k < l.length) : deep l[k] ≤ deeps l := by
  have h1 := deeps_snoc l k h
  have h2 := deeps_take_le l (k + 1)
  omega
theorem take_all (l : List Itm) : l.take l.length = l := List.take_length
/-- Induction on how deep the items go. -/
theorem deep_lt (x : Itm) (k : Nat) (h : k < x.sub.length) : deep x.sub[k] < deep x := by
  have := deep_at x.sub k h
  rw [deep_sub x]; omega
end Go.Proofs.YtbgcbcnidjlhnaaDoor.Cb
