/- Which items may be: plain. No program is named here. -/
import Derived.Test.YthknkdphofjmhaaDoorZg4
import Derived.Test.YthknkdphofjmhaaDoorZg5
namespace Go.Proofs.YthknkdphofjmhaaDoor.Cb

/-- Has an item nothing but what its kind has? -/
def kindFit (x : Itm) : Bool :=
  if x.kind = 0 then x.bs.length == 0 && x.sub.length == 0
  else if x.kind = 2 then x.num == 0 && x.sub.length == 0
  else if x.kind = 3 then x.num == 0 && x.sub.length == 0 && U8.utf8 x.bs
  else if x.kind = 4 then x.num == 0 && x.bs.length == 0
  else false
mutual
/-- Have all parts nothing but what their kinds have? -/
def fine : Itm → Bool
  | .mk k n b l => kindFit (.mk k n b l) && fines l
def fines : List Itm → Bool
  | [] => true
  | x :: l => fine x && fines l
end
/-- May an item be? -/
def right (x : Itm) : Bool := decide (size x ≤ 256) && decide (deep x ≤ 6) && fine x
theorem fine_sub (x : Itm) : fine x = (kindFit x && fines x.sub) := by cases x; rfl
theorem fines_append : ∀ (l m : List Itm), fines (l ++ m) = (fines l && fines m)
  | [], m => by simp [fines]
  | x :: l, m => by simp [fines, fines_append l m, Bool.and_assoc]
theorem fines_snoc (l : List Itm) (k : Nat) (h : k < l.length) : fines (l.take (k + 1)) = (fines (l.take k) && fine l[k]) := by
  rw [take_snoc l k h, fines_append]; simp [fines]
theorem fines_no : ∀ (l : List Itm) (k : Nat) (h : k < l.length), fine l[k] = false → fines l = false
  | x :: l, 0, _, e => by simp at e; simp [fines, e]
  | x :: l, k + 1, h, e => by simp [fines, fines_no l k (by simpa using h) (by simpa using e)]
end Go.Proofs.YthknkdphofjmhaaDoor.Cb
