/- An item's shortest bytes: plain. No program is named here. -/
import Derived.Test.YtoieadbifhealaaDoorItemP
import Derived.Test.YtoieadbifhealaaDoorHeadPure
namespace Go.Proofs.YtoieadbifhealaaDoor.Cb

/-- The number in an item's head. -/
def cn (x : Itm) : Int := if x.kind = 2 ∨ x.kind = 3 then x.bs.length else if x.kind = 4 then x.sub.length else x.num
mutual
/-- An item's bytes. -/
def enc : Itm → List Int
  | .mk k n b l => HeadP.bytes k (cn (.mk k n b l)) false ++ b ++ encs l
def encs : List Itm → List Int
  | [] => []
  | x :: l => enc x ++ encs l
end
theorem enc_sub (x : Itm) : enc x = HeadP.bytes x.kind (cn x) false ++ x.bs ++ encs x.sub := by cases x; rfl
theorem encs_append : ∀ (l m : List Itm), encs (l ++ m) = encs l ++ encs m
  | [], m => by simp [encs]
  | x :: l, m => by simp [encs, encs_append l m]
theorem encs_snoc (l : List Itm) (k : Nat) (h : k < l.length) : encs (l.take (k + 1)) = encs (l.take k) ++ enc l[k] := by
  rw [take_snoc l k h, encs_append]; simp [encs]
theorem encs_take_le (l : List Itm) (k : Nat) : (encs (l.take k)).length ≤ (encs l).length := by
  have h := encs_append (l.take k) (l.drop k)
  rw [List.take_append_drop] at h
  rw [h]; simp
theorem fit_kind (x : Itm) (h : kindFit x = true) : x.kind = 0 ∨ x.kind = 2 ∨ x.kind = 3 ∨ x.kind = 4 := by
  unfold kindFit at h
  split at h
  · simp [*]
  · split at h
    · simp [*]
    · split at h
      · simp [*]
      · split at h
        · simp [*]
        · simp at h
theorem fine_kind (x : Itm) (h : fine x = true) : x.kind = 0 ∨ x.kind = 2 ∨ x.kind = 3 ∨ x.kind = 4 := by
  rw [fine_sub] at h
  exact fit_kind x (Bool.and_eq_true_iff.1 h).1
theorem fines_at : ∀ (l : List Itm) (k : Nat) (h : k < l.length), fines l = true → fine l[k] = true
  | x :: l, 0, _, e => by simp [fines] at e; simpa using e.1
  | x :: l, k + 1, h, e => by simp [fines] at e; simpa using fines_at l k (by simpa using h) e.2
end Go.Proofs.YtoieadbifhealaaDoor.Cb
