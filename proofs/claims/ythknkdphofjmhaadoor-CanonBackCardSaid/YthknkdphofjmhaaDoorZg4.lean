/- Texts of my own, laid together: Item, ItemW, App, AppS, CbCopy, CbWithin. -/
import Derived.Test.YthknkdphofjmhaaDoorZg1
import Derived.Maps.AppendAt
import Derived.Tactics
import Derived.OwnWalk
import Derived.Test.YthknkdphofjmhaaDoorProg
import Derived.WalkKit
import Derived.WalkSpells
import Derived.Lib.Hide
import Derived.Outline
import Derived.Deep.QuietTactic
import Derived.BigQuiet
import Derived.Laws.Pointers
import Derived.Lib.ConvBytes
/- Items as plain data: number, bytes, text, list; their size and depth. No program is named here. -/
namespace Go.Proofs.YthknkdphofjmhaaDoor.Cb

/-- An item: its kind, number, bytes, list. -/
inductive Itm where
  | mk (kind n : Int) (b : List Int) (l : List Itm)

namespace Itm
def kind : Itm → Int | .mk k _ _ _ => k
def num : Itm → Int | .mk _ n _ _ => n
def bs : Itm → List Int | .mk _ _ b _ => b
def sub : Itm → List Itm | .mk _ _ _ l => l
end Itm
theorem eta (x : Itm) : x = .mk x.kind x.num x.bs x.sub := by cases x; rfl

mutual
/-- How many items there are. -/
def size : Itm → Nat
  | .mk _ _ _ l => 1 + sizes l
def sizes : List Itm → Nat
  | [] => 0
  | x :: l => size x + sizes l
end
mutual
/-- How deep it goes. -/
def deep : Itm → Nat
  | .mk _ _ _ l => 1 + deeps l
def deeps : List Itm → Nat
  | [] => 0
  | x :: l => max (deep x) (deeps l)
end
mutual
/-- Are two equal? -/
def same : Itm → Itm → Bool
  | .mk k n b l, .mk k' n' b' l' => k == k' && n == n' && b == b' && sames l l'
def sames : List Itm → List Itm → Bool
  | [], [] => true
  | x :: l, y :: m => same x y && sames l m
  | _, _ => false
end
mutual
theorem same_iff : ∀ (x y : Itm), same x y = true ↔ x = y
  | .mk k n b l, .mk k' n' b' l' => by
    simp only [same, Bool.and_eq_true, beq_iff_eq, sames_iff l l', Itm.mk.injEq, and_assoc]
theorem sames_iff : ∀ (l m : List Itm), sames l m = true ↔ l = m
  | [], [] => by simp [sames]
  | [], _ :: _ => by simp [sames]
  | _ :: _, [] => by simp [sames]
  | x :: l, y :: m => by simp only [sames, Bool.and_eq_true, same_iff x y, sames_iff l m, List.cons.injEq]
end
theorem same_self (x : Itm) : same x x = true := (same_iff x x).2 rfl
theorem size_pos (x : Itm) : 1 ≤ size x := by cases x; simp [size]
theorem deep_pos (x : Itm) : 1 ≤ deep x := by cases x; simp [deep]
theorem size_sub (x : Itm) : size x = 1 + sizes x.sub := by cases x; rfl
theorem deep_sub (x : Itm) : deep x = 1 + deeps x.sub := by cases x; rfl
theorem sizes_append : ∀ (l m : List Itm), sizes (l ++ m) = sizes l + sizes m
  | [], m => by simp [sizes]
  | x :: l, m => by simp [sizes, sizes_append l m]; omega
theorem deeps_append : ∀ (l m : List Itm), deeps (l ++ m) = max (deeps l) (deeps m)
  | [], m => by simp [deeps]
  | x :: l, m => by simp only [List.cons_append, deeps, deeps_append l m]; omega
theorem length_le_sizes : ∀ (l : List Itm), l.length ≤ sizes l
  | [] => by simp
  | x :: l => by have := size_pos x; have := length_le_sizes l; simp [sizes]; omega
theorem take_snoc (l : List Itm) (k : Nat) (h : k < l.length) : l.take (k + 1) = l.take k ++ [l[k]] := List.take_succ_eq_append_getElem h
theorem sizes_snoc (l : List Itm) (k : Nat) (h : k < l.length) : sizes (l.take (k + 1)) = sizes (l.take k) + size l[k] := by
  rw [take_snoc l k h, sizes_append]; simp [sizes]
theorem deeps_snoc (l : List Itm) (k : Nat) (h : k < l.length) : deeps (l.take (k + 1)) = max (deeps (l.take k)) (deep l[k]) := by
  rw [take_snoc l k h, deeps_append]; simp [deeps]
theorem sizes_take_le (l : List Itm) (k : Nat) : sizes (l.take k) ≤ sizes l := by
  have h := sizes_append (l.take k) (l.drop k)
  rw [List.take_append_drop] at h
  omega
theorem deeps_take_le (l : List Itm) (k : Nat) : deeps (l.take k) ≤ deeps l := by
  have h := deeps_append (l.take k) (l.drop k)
  rw [List.take_append_drop] at h
  omega
theorem size_at (l : List Itm) (k : Nat) (h : k < l.length) : size l[k] ≤ sizes l := by
  have h1 := sizes_snoc l k h
  have h2 := sizes_take_le l (k + 1)
  omega
theorem deep_at (l : List Itm) (k : Nat) (h : k < l.length) : deep l[k] ≤ deeps l := by
  have h1 := deeps_snoc l k h
  have h2 := deeps_take_le l (k + 1)
  omega
theorem take_all (l : List Itm) : l.take l.length = l := List.take_length
/-- Induction on how deep the items go. -/
theorem deep_lt (x : Itm) (k : Nat) (h : k < x.sub.length) : deep x.sub[k] < deep x := by
  have := deep_at x.sub k h
  rw [deep_sub x]; omega
end Go.Proofs.YthknkdphofjmhaaDoor.Cb
/- How an item lies in memory: four cells; its bytes and its list behind heads, in blocks from lo on and below hi. No program is named here. -/
namespace Go.Proofs.YthknkdphofjmhaaDoor.Cb
open Go.RowKit Wd

/-- The slice head A leads to these cells, in a block from lo on and below hi. -/
def Seg (w : World) (lo hi : Nat) (A : Option Addr) (vs : List Value) : Prop :=
  vs = [] ∨ ∃ b o, A = some ⟨b, o, none⟩ ∧ lo ≤ b ∧ b < hi ∧ ∀ j, j < vs.length → w.cell? ⟨b, o + j, none⟩ = vs[j]?

section
variable {w w' : World} {lo hi lo' hi' : Nat} {A : Option Addr} {vs : List Value}
theorem Seg.nil : Seg w lo hi A [] := .inl rfl
theorem Seg.lst (h : Seg w lo hi A vs) : Lst w hi A vs := by
  rcases h with h | ⟨b, o, e, _, hb, hc⟩
  · exact .inl h
  · exact .inr ⟨b, o, e, hb, hc⟩
theorem Seg.of_lst (h : Lst w hi A vs) : Seg w 0 hi A vs := by
  rcases h with h | ⟨b, o, e, hb, hc⟩
  · exact .inl h
  · exact .inr ⟨b, o, e, Nat.zero_le _, hb, hc⟩
theorem Seg.keep (h : Seg w lo hi A vs) (hk : ∀ p : Addr, lo ≤ p.block → p.block < hi → w'.cell? p = w.cell? p) : Seg w' lo hi A vs := by
  rcases h with h | ⟨b, o, e, hl, hb, hc⟩
  · exact .inl h
  · exact .inr ⟨b, o, e, hl, hb, fun j hj => (hk _ hl hb).trans (hc j hj)⟩
theorem Seg.more (h : Seg w lo hi A vs) (h1 : lo' ≤ lo) (h2 : hi ≤ hi') : Seg w lo' hi' A vs := by
  rcases h with h | ⟨b, o, e, hl, hb, hc⟩
  · exact .inl h
  · exact .inr ⟨b, o, e, by omega, by omega, hc⟩
theorem Seg.below (h : Seg w lo hi A vs) (hb : Below hi w w') : Seg w' lo hi A vs := h.keep fun _ _ hp => hb.cell hp
theorem Seg.at_ (h : Seg w lo hi A vs) {k : Nat} (hk : k < vs.length) : ∃ b o, A = some ⟨b, o, none⟩ ∧ lo ≤ b ∧ b < hi ∧ ∀ j, j < vs.length → w.cell? ⟨b, o + j, none⟩ = vs[j]? := by
  rcases h with h | h
  · simp [h] at hk
  · exact h
theorem Seg.of_own {base n cap s : Nat} {e : TypeId} (h : w.ownsRow base e s (.slice A n cap) n vs) : Seg w base w.heap.size A vs := by
  rcases h.2 with ⟨h', hn⟩ | ⟨g, cap', cur, h', _⟩
  · have hl := h.1
    subst hn
    exact .inl (List.eq_nil_of_length_eq_zero (by simpa using hl))
  · injection h' with hA _ hc
    subst hA
    subst hc
    refine .inr ⟨g, 0, rfl, (h.lt g rfl).1, (h.lt g rfl).2, fun j hj => ?_⟩
    have := h.cellAt j (by have := h.1; omega)
    simpa using this
end

mutual
/-- An item in four cells. -/
def Rep (w : World) (lo hi : Nat) : Itm → List Value → Prop
  | .mk k n b l, cs => ∃ A c A' c' vs, cs = [.int .i64 k, .int .u64 n, .slice A b.length c, .slice A' l.length c'] ∧
      (-9223372036854775808 ≤ k ∧ k ≤ 9223372036854775807) ∧ (0 ≤ n ∧ n ≤ 18446744073709551615) ∧ St.bts b ∧ b.length ≤ c ∧ c ≤ maxLen ∧ Seg w lo hi A (u8s b) ∧
      l.length ≤ c' ∧ c' ≤ maxLen ∧ Seg w lo hi A' vs ∧ Reps w lo hi l vs
/-- Items, one behind the other. -/
def Reps (w : World) (lo hi : Nat) : List Itm → List Value → Prop
  | [], vs => vs = []
  | x :: l, vs => ∃ c r, vs = c ++ r ∧ Rep w lo hi x c ∧ Reps w lo hi l r
end
mutual
theorem Rep.keep {w w' : World} {lo hi : Nat} (hk : ∀ p : Addr, lo ≤ p.block → p.block < hi → w'.cell? p = w.cell? p) : ∀ {x : Itm} {cs : List Value}, Rep w lo hi x cs → Rep w' lo hi x cs
  | .mk k n b l, cs, h => by
    unfold Rep at h ⊢
    obtain ⟨A, c, A', c', vs, h1, h2, h3, h4, h5, h6, h7, h8, h9, h10, h11⟩ := h
    exact ⟨A, c, A', c', vs, h1, h2, h3, h4, h5, h6, h7.keep hk, h8, h9, h10.keep hk, Reps.keep hk h11⟩
theorem Reps.keep {w w' : World} {lo hi : Nat} (hk : ∀ p : Addr, lo ≤ p.block → p.block < hi → w'.cell? p = w.cell? p) : ∀ {l : List Itm} {vs : List Value}, Reps w lo hi l vs → Reps w' lo hi l vs
  | [], vs, h => by unfold Reps at h ⊢; exact h
  | x :: l, vs, h => by
    unfold Reps at h ⊢
    obtain ⟨c, r, h1, h2, h3⟩ := h
    exact ⟨c, r, h1, Rep.keep hk h2, Reps.keep hk h3⟩
end
mutual
theorem Rep.more {w : World} {lo hi lo' hi' : Nat} (h1 : lo' ≤ lo) (h2 : hi ≤ hi') : ∀ {x : Itm} {cs : List Value}, Rep w lo hi x cs → Rep w lo' hi' x cs
  | .mk k n b l, cs, h => by
    unfold Rep at h ⊢
    obtain ⟨A, c, A', c', vs, g1, g2, h3, h4, h5, h6, h7, h8, h9, h10, h11⟩ := h
    exact ⟨A, c, A', c', vs, g1, g2, h3, h4, h5, h6, h7.more h1 h2, h8, h9, h10.more h1 h2, Reps.more h1 h2 h11⟩
theorem Reps.more {w : World} {lo hi lo' hi' : Nat} (h1 : lo' ≤ lo) (h2 : hi ≤ hi') : ∀ {l : List Itm} {vs : List Value}, Reps w lo hi l vs → Reps w lo' hi' l vs
  | [], vs, h => by unfold Reps at h ⊢; exact h
  | x :: l, vs, h => by
    unfold Reps at h ⊢
    obtain ⟨c, r, h3, h4, h5⟩ := h
    exact ⟨c, r, h3, Rep.more h1 h2 h4, Reps.more h1 h2 h5⟩
end
section
variable {w w' : World} {lo hi lo' hi' : Nat} {x : Itm} {cs vs : List Value} {l m : List Itm}
theorem Rep.below (h : Rep w lo hi x cs) (hb : Below hi w w') : Rep w' lo hi x cs := h.keep fun _ _ hp => hb.cell hp
theorem Reps.below (h : Reps w lo hi l vs) (hb : Below hi w w') : Reps w' lo hi l vs := h.keep fun _ _ hp => hb.cell hp
theorem Rep.length (h : Rep w lo hi x cs) : cs.length = 4 := by
  cases x
  unfold Rep at h
  obtain ⟨A, c, A', c', vs, rfl, _⟩ := h
  rfl
theorem Reps.length : ∀ {l : List Itm} {vs : List Value}, Reps w lo hi l vs → vs.length = l.length * 4
  | [], vs, h => by unfold Reps at h; simp [h]
  | x :: l, vs, h => by
    unfold Reps at h
    obtain ⟨c, r, rfl, h1, h2⟩ := h
    have := h1.length
    have := h2.length
    simp; omega
theorem Reps.append : ∀ {l : List Itm} {vs : List Value} {m : List Itm} {us : List Value}, Reps w lo hi l vs → Reps w lo hi m us → Reps w lo hi (l ++ m) (vs ++ us)
  | [], vs, m, us, h, h' => by unfold Reps at h; subst h; simpa using h'
  | x :: l, vs, m, us, h, h' => by
    unfold Reps at h
    obtain ⟨c, r, rfl, h1, h2⟩ := h
    show Reps w lo hi (x :: (l ++ m)) _
    unfold Reps
    exact ⟨c, r ++ us, by simp, h1, h2.append h'⟩
theorem Reps.one (h : Rep w lo hi x cs) : Reps w lo hi [x] cs := by
  unfold Reps
  exact ⟨cs, [], by simp, h, by unfold Reps; rfl⟩
theorem Reps.none_ : Reps w lo hi [] [] := by unfold Reps; rfl
theorem Reps.get : ∀ {l : List Itm} {vs : List Value} {k : Nat} (hk : k < l.length), Reps w lo hi l vs → Rep w lo hi l[k] ((vs.drop (k * 4)).take 4)
  | x :: l, vs, 0, _, h => by
    unfold Reps at h
    obtain ⟨c, r, rfl, h1, h2⟩ := h
    have := h1.length
    simpa [List.take_append, this] using h1
  | x :: l, vs, k + 1, hk, h => by
    unfold Reps at h
    obtain ⟨c, r, rfl, h1, h2⟩ := h
    have h3 := h1.length
    have h4 := Reps.get (k := k) (by simpa using hk) h2
    have e : (c ++ r).drop ((k + 1) * 4) = r.drop (k * 4) := by
      rw [List.drop_append, List.drop_of_length_le (by omega), show (k + 1) * 4 - c.length = k * 4 by omega, List.nil_append]
    rw [e]
    exact h4
end

/-- An item that is handed over by value. -/
def ItemV (w : World) (lo hi : Nat) (x : Itm) (v : Value) : Prop := ∃ cs : List Value, v = .agg cs.toArray ∧ Rep w lo hi x cs
/-- Items behind a slice's head. -/
def ItemsV (w : World) (lo hi : Nat) (l : List Itm) (A : Option Addr) : Prop := ∃ vs, Seg w lo hi A vs ∧ Reps w lo hi l vs
section
variable {w w' : World} {lo hi lo' hi' : Nat} {x : Itm} {v : Value} {l : List Itm} {A : Option Addr}
theorem ItemV.below (h : ItemV w lo hi x v) (hb : Below hi w w') : ItemV w' lo hi x v := let ⟨cs, e, r⟩ := h; ⟨cs, e, r.below hb⟩
theorem ItemV.more (h : ItemV w lo hi x v) (h1 : lo' ≤ lo) (h2 : hi ≤ hi') : ItemV w lo' hi' x v := let ⟨cs, e, r⟩ := h; ⟨cs, e, r.more h1 h2⟩
theorem ItemV.keep (h : ItemV w lo hi x v) (hk : ∀ p : Addr, lo ≤ p.block → p.block < hi → w'.cell? p = w.cell? p) : ItemV w' lo hi x v := let ⟨cs, e, r⟩ := h; ⟨cs, e, r.keep hk⟩
theorem ItemsV.below (h : ItemsV w lo hi l A) (hb : Below hi w w') : ItemsV w' lo hi l A := let ⟨cs, e, r⟩ := h; ⟨cs, e.below hb, r.below hb⟩
theorem ItemsV.more (h : ItemsV w lo hi l A) (h1 : lo' ≤ lo) (h2 : hi ≤ hi') : ItemsV w lo' hi' l A := let ⟨cs, e, r⟩ := h; ⟨cs, e.more h1 h2, r.more h1 h2⟩
theorem ItemsV.keep (h : ItemsV w lo hi l A) (hk : ∀ p : Addr, lo ≤ p.block → p.block < hi → w'.cell? p = w.cell? p) : ItemsV w' lo hi l A := let ⟨cs, e, r⟩ := h; ⟨cs, e.keep hk, r.keep hk⟩
theorem ItemsV.nil : ItemsV w lo hi [] A := ⟨[], .nil, .none_⟩
/-- What an item's four cells are. -/
theorem Rep.open_ {cs : List Value} (h : Rep w lo hi x cs) : ∃ A c A' c', cs = [.int .i64 x.kind, .int .u64 x.num, .slice A x.bs.length c, .slice A' x.sub.length c'] ∧
      (-9223372036854775808 ≤ x.kind ∧ x.kind ≤ 9223372036854775807) ∧ (0 ≤ x.num ∧ x.num ≤ 18446744073709551615) ∧ St.bts x.bs ∧ x.bs.length ≤ c ∧ c ≤ maxLen ∧ Seg w lo hi A (u8s x.bs) ∧
      x.sub.length ≤ c' ∧ c' ≤ maxLen ∧ ItemsV w lo hi x.sub A' := by
  cases x
  unfold Rep at h
  obtain ⟨A, c, A', c', vs, h1, h2, h3, h4, h5, h6, h7, h8, h9, h10, h11⟩ := h
  exact ⟨A, c, A', c', h1, h2, h3, h4, h5, h6, h7, h8, h9, vs, h10, h11⟩
theorem Rep.mk {k n : Int} {b : List Int} {l : List Itm} {A A' : Option Addr} {c c' : Nat} (hk : -9223372036854775808 ≤ k ∧ k ≤ 9223372036854775807) (hn : 0 ≤ n ∧ n ≤ 18446744073709551615) (hb : St.bts b)
    (h1 : b.length ≤ c) (h2 : c ≤ maxLen) (h3 : Seg w lo hi A (u8s b)) (h4 : l.length ≤ c') (h5 : c' ≤ maxLen) (h6 : ItemsV w lo hi l A') :
    Rep w lo hi (.mk k n b l) [.int .i64 k, .int .u64 n, .slice A b.length c, .slice A' l.length c'] := by
  obtain ⟨vs, h6, h7⟩ := h6
  unfold Rep
  exact ⟨A, c, A', c', vs, rfl, hk, hn, hb, h1, h2, h3, h4, h5, h6, h7⟩
theorem ItemV.open_ (h : ItemV w lo hi x v) : ∃ A c A' c', v = .agg #[.int .i64 x.kind, .int .u64 x.num, .slice A x.bs.length c, .slice A' x.sub.length c'] ∧
      (-9223372036854775808 ≤ x.kind ∧ x.kind ≤ 9223372036854775807) ∧ (0 ≤ x.num ∧ x.num ≤ 18446744073709551615) ∧ St.bts x.bs ∧ x.bs.length ≤ c ∧ c ≤ maxLen ∧ Seg w lo hi A (u8s x.bs) ∧
      x.sub.length ≤ c' ∧ c' ≤ maxLen ∧ ItemsV w lo hi x.sub A' := by
  obtain ⟨cs, e, r⟩ := h
  obtain ⟨A, c, A', c', rfl, h⟩ := r.open_
  exact ⟨A, c, A', c', e, h⟩
theorem ItemV.mk {k n : Int} {b : List Int} {l : List Itm} {A A' : Option Addr} {c c' : Nat} (hk : -9223372036854775808 ≤ k ∧ k ≤ 9223372036854775807) (hn : 0 ≤ n ∧ n ≤ 18446744073709551615) (hb : St.bts b)
    (h1 : b.length ≤ c) (h2 : c ≤ maxLen) (h3 : Seg w lo hi A (u8s b)) (h4 : l.length ≤ c') (h5 : c' ≤ maxLen) (h6 : ItemsV w lo hi l A') :
    ItemV w lo hi (.mk k n b l) (.agg #[.int .i64 k, .int .u64 n, .slice A b.length c, .slice A' l.length c']) := ⟨_, rfl, Rep.mk hk hn hb h1 h2 h3 h4 h5 h6⟩
/-- Its parts by their names. -/
theorem ItemV.of {A A' : Option Addr} {c c' : Nat} (hk : -9223372036854775808 ≤ x.kind ∧ x.kind ≤ 9223372036854775807) (hn : 0 ≤ x.num ∧ x.num ≤ 18446744073709551615) (hb : St.bts x.bs)
    (h1 : x.bs.length ≤ c) (h2 : c ≤ maxLen) (h3 : Seg w lo hi A (u8s x.bs)) (h4 : x.sub.length ≤ c') (h5 : c' ≤ maxLen) (h6 : ItemsV w lo hi x.sub A') :
    ItemV w lo hi x (.agg #[.int .i64 x.kind, .int .u64 x.num, .slice A x.bs.length c, .slice A' x.sub.length c']) := by
  cases x
  exact ItemV.mk hk hn hb h1 h2 h3 h4 h5 h6
/-- The k-th of items behind a head: where its cells are, and what they hold. -/
theorem ItemsV.at_ (h : ItemsV w lo hi l A) {k : Nat} (hk : k < l.length) : ∃ b o A1 c A2 c', A = some ⟨b, o, none⟩ ∧ lo ≤ b ∧ b < hi ∧
      w.cell? ⟨b, o + k * 4, none⟩ = some (.int .i64 l[k].kind) ∧ w.cell? ⟨b, o + k * 4 + 1, none⟩ = some (.int .u64 l[k].num) ∧
      w.cell? ⟨b, o + k * 4 + 2, none⟩ = some (.slice A1 l[k].bs.length c) ∧ w.cell? ⟨b, o + k * 4 + 3, none⟩ = some (.slice A2 l[k].sub.length c') ∧
      (-9223372036854775808 ≤ l[k].kind ∧ l[k].kind ≤ 9223372036854775807) ∧ (0 ≤ l[k].num ∧ l[k].num ≤ 18446744073709551615) ∧ St.bts l[k].bs ∧ l[k].bs.length ≤ c ∧ c ≤ maxLen ∧ Seg w lo hi A1 (u8s l[k].bs) ∧
      l[k].sub.length ≤ c' ∧ c' ≤ maxLen ∧ ItemsV w lo hi l[k].sub A2 := by
  obtain ⟨vs, hs, hr⟩ := h
  have hl := hr.length
  have hg := hr.get hk
  obtain ⟨b, o, rfl, h1, h2, hc⟩ := hs.at_ (k := k * 4) (by omega)
  obtain ⟨A1, c, A2, c', e, h⟩ := hg.open_
  have hat : ∀ f, f < 4 → vs[k * 4 + f]? = ((vs.drop (k * 4)).take 4)[f]? := fun f hf => by
    rw [List.getElem?_take, if_pos hf, List.getElem?_drop]
  have k0 := hat 0 (by omega)
  have k1 := hat 1 (by omega)
  have k2 := hat 2 (by omega)
  have k3 := hat 3 (by omega)
  rw [e] at k0 k1 k2 k3
  refine ⟨b, o, A1, c, A2, c', rfl, h1, h2, ?_, ?_, ?_, ?_, h⟩
  · rw [hc _ (by omega)]; simpa using k0
  · rw [Nat.add_assoc, hc _ (by omega)]; simpa using k1
  · rw [Nat.add_assoc, hc _ (by omega)]; simpa using k2
  · rw [Nat.add_assoc, hc _ (by omega)]; simpa using k3
end

/-- A store elsewhere leaves it alone. -/
theorem keep_set {w : World} {lo hi : Nat} {p : Addr} (hp : p.block < lo ∨ hi ≤ p.block) (u : Value) : ∀ q : Addr, lo ≤ q.block → q.block < hi → (w.setCell p u).cell? q = w.cell? q :=
  fun q h1 h2 => World.cell?_setCell_other w p q u (fun e => by subst e; omega)
theorem keep_alloc {w : World} {lo hi : Nat} (hh : hi ≤ w.heap.size) (o : Obj) : ∀ q : Addr, lo ≤ q.block → q.block < hi → (w.alloc o).cell? q = w.cell? q :=
  fun q _ h2 => World.cell?_alloc_lt w o q (by omega)
theorem keep_grown {w w' : World} {lo hi g : Nat} (h : w.grownBy w' (some g)) (hh : hi ≤ w.heap.size) (hg : g < lo ∨ hi ≤ g) : ∀ q : Addr, lo ≤ q.block → q.block < hi → w'.cell? q = w.cell? q :=
  fun q h1 h2 => World.cell?_of_block (h.block q.block (by omega) (fun e => by injection e; omega))
section
variable {w w' : World} {lo hi : Nat} {x : Itm} {v : Value} {l : List Itm} {A : Option Addr} {vs : List Value}
theorem Seg.set_ (h : Seg w lo hi A vs) {p : Addr} (hp : p.block < lo ∨ hi ≤ p.block) (u : Value) : Seg (w.setCell p u) lo hi A vs := h.keep (keep_set hp u)
theorem ItemV.set_ (h : ItemV w lo hi x v) {p : Addr} (hp : p.block < lo ∨ hi ≤ p.block) (u : Value) : ItemV (w.setCell p u) lo hi x v := h.keep (keep_set hp u)
theorem ItemsV.set_ (h : ItemsV w lo hi l A) {p : Addr} (hp : p.block < lo ∨ hi ≤ p.block) (u : Value) : ItemsV (w.setCell p u) lo hi l A := h.keep (keep_set hp u)
theorem Seg.set4 (h : Seg w lo hi A vs) {b : Nat} (hp : b < lo ∨ hi ≤ b) (a c d e : Value) : Seg ((((w.setCell ⟨b, 0, none⟩ a).setCell ⟨b, 1, none⟩ c).setCell ⟨b, 2, none⟩ d).setCell ⟨b, 3, none⟩ e) lo hi A vs :=
  (((h.set_ (p := ⟨b, 0, none⟩) hp a).set_ (p := ⟨b, 1, none⟩) hp c).set_ (p := ⟨b, 2, none⟩) hp d).set_ (p := ⟨b, 3, none⟩) hp e
theorem ItemsV.set4 (h : ItemsV w lo hi l A) {b : Nat} (hp : b < lo ∨ hi ≤ b) (a c d e : Value) : ItemsV ((((w.setCell ⟨b, 0, none⟩ a).setCell ⟨b, 1, none⟩ c).setCell ⟨b, 2, none⟩ d).setCell ⟨b, 3, none⟩ e) lo hi l A :=
  (((h.set_ (p := ⟨b, 0, none⟩) hp a).set_ (p := ⟨b, 1, none⟩) hp c).set_ (p := ⟨b, 2, none⟩) hp d).set_ (p := ⟨b, 3, none⟩) hp e
theorem ItemV.set4 (h : ItemV w lo hi x v) {b : Nat} (hp : b < lo ∨ hi ≤ b) (a c d e : Value) : ItemV ((((w.setCell ⟨b, 0, none⟩ a).setCell ⟨b, 1, none⟩ c).setCell ⟨b, 2, none⟩ d).setCell ⟨b, 3, none⟩ e) lo hi x v :=
  (((h.set_ (p := ⟨b, 0, none⟩) hp a).set_ (p := ⟨b, 1, none⟩) hp c).set_ (p := ⟨b, 2, none⟩) hp d).set_ (p := ⟨b, 3, none⟩) hp e
theorem Seg.alloc (h : Seg w lo hi A vs) (hh : hi ≤ w.heap.size) (o : Obj) : Seg (w.alloc o) lo hi A vs := h.keep (keep_alloc hh o)
theorem ItemV.alloc (h : ItemV w lo hi x v) (hh : hi ≤ w.heap.size) (o : Obj) : ItemV (w.alloc o) lo hi x v := h.keep (keep_alloc hh o)
theorem ItemsV.alloc (h : ItemsV w lo hi l A) (hh : hi ≤ w.heap.size) (o : Obj) : ItemsV (w.alloc o) lo hi l A := h.keep (keep_alloc hh o)
theorem Seg.grown (h : Seg w lo hi A vs) {g : Nat} (hg : w.grownBy w' (some g)) (hh : hi ≤ w.heap.size) (hn : g < lo ∨ hi ≤ g) : Seg w' lo hi A vs := h.keep (keep_grown hg hh hn)
theorem ItemV.grown (h : ItemV w lo hi x v) {g : Nat} (hg : w.grownBy w' (some g)) (hh : hi ≤ w.heap.size) (hn : g < lo ∨ hi ≤ g) : ItemV w' lo hi x v := h.keep (keep_grown hg hh hn)
theorem ItemsV.grown (h : ItemsV w lo hi l A) {g : Nat} (hg : w.grownBy w' (some g)) (hh : hi ≤ w.heap.size) (hn : g < lo ∨ hi ≤ g) : ItemsV w' lo hi l A := h.keep (keep_grown hg hh hn)
end
section
variable {w : World} {lo hi : Nat} {x : Itm} {v : Value} {l : List Itm} {A : Option Addr} {vs : List Value}
theorem Seg.drew (h : Seg w lo hi A vs) : Seg w.drew lo hi A vs := Seg.keep (w := w) (w' := w.drew) h fun _ _ _ => rfl
theorem Reps.drew (h : Reps w lo hi l vs) : Reps w.drew lo hi l vs := Reps.keep (w := w) (w' := w.drew) (fun _ _ _ => rfl) h
theorem ItemV.drew (h : ItemV w lo hi x v) : ItemV w.drew lo hi x v := ItemV.keep (w := w) (w' := w.drew) h fun _ _ _ => rfl
theorem ItemsV.drew (h : ItemsV w lo hi l A) : ItemsV w.drew lo hi l A := ItemsV.keep (w := w) (w' := w.drew) h fun _ _ _ => rfl
theorem Seg.drewN (h : Seg w lo hi A vs) (n : Nat) : Seg (w.drewN n) lo hi A vs := Seg.keep (w := w) (w' := w.drewN n) h fun _ _ _ => rfl
theorem ItemV.drewN (h : ItemV w lo hi x v) (n : Nat) : ItemV (w.drewN n) lo hi x v := ItemV.keep (w := w) (w' := w.drewN n) h fun _ _ _ => rfl
theorem ItemsV.drewN (h : ItemsV w lo hi l A) (n : Nat) : ItemsV (w.drewN n) lo hi l A := ItemsV.keep (w := w) (w' := w.drewN n) h fun _ _ _ => rfl
end
end Go.Proofs.YthknkdphofjmhaaDoor.Cb
/- append onto a row of the call's own, whatever the source: nil, empty or not. No program is named here. -/
namespace Go.Proofs.YthknkdphofjmhaaDoor.Wd
open Go.RowKit

section
variable {P : Program} (w : World)

theorem run_append_none (base : Nat) (t ty e : TypeId) (i : TypeInfo) (size : Nat) (ht : P.underlying t = some (.slice e)) (hi : P.info? e = some i)
    (v : Value) (n : Nat) (xs : List Value) (hown : w.ownsRow base e size v n xs) (c : Nat) : (Builtin.append_ #[t, t] ty #[v, .slice none 0 c]).run P w = .ok v w := by
  rcases hown.2 with ⟨rfl, rfl⟩ | ⟨g, cap, cur, rfl, _, _, hnc, _⟩
  · simp [Builtin.append_, run_underlying ht, sizeOf, typeInfo, hi, Builtin.lenOf, Builtin.firstCells]
  · simp [Builtin.append_, run_underlying ht, sizeOf, typeInfo, hi, Builtin.lenOf, Builtin.firstCells, hnc, storeCells]

theorem run_append_lst (base : Nat) (t ty e : TypeId) (i : TypeInfo) (z : Value) (bytes : Nat) (ht : P.underlying t = some (.slice e)) (hi : P.info? e = some i) (hz : i.zero = some z)
    (hsize : i.size = 1) (hby : i.bytes = bytes) (hzs : z.cells.size = 1)
    (v : Value) (n : Nat) (xs : List Value) (hown : w.ownsRow base e 1 v n xs)
    (B : Nat) (A : Option Addr) (m c : Nat) (news : List Value) (hm : news.length = m) (hr : Lst w B A news) (h1 : ∀ u ∈ news, u.oneCell' = true)
    (h63 : n + m ≤ maxLen) (hbytes : (n + m) * bytes ≤ 140737488355328) (hbase : base ≤ w.heap.size) :
    ∃ v' w', (Builtin.append_ #[t, t] ty #[v, .slice A m c]).run P w = .ok v' w' ∧ w'.ownsRow base e 1 v' (n + m) (xs ++ news) ∧ w.grownBy w' v.ownBlock ∧
      (v'.ownBlock = v.ownBlock ∨ v'.ownBlock = some w.heap.size) := by
  rcases A with _ | ad
  · have hn : news = [] := by
      rcases hr with h | ⟨b, o, h, _⟩
      · exact h
      · cases h
    subst hn
    simp at hm
    subst hm
    exact ⟨v, w, run_append_none w base t ty e i 1 ht hi v n xs hown c, by simpa using hown, World.grownBy.refl w _, .inl rfl⟩
  · have hcells : ∀ j u, news[j]? = some u → w.cell? (ad.add j) = some u := by
      intro j u hu
      obtain ⟨hj, _⟩ := List.getElem?_eq_some_iff.1 hu
      obtain ⟨b, o, h, _, hc⟩ := hr.at_ hj
      injection h with h
      subst h
      have hplain : (⟨b, o, none⟩ : Addr).add j = ⟨b, o + j, none⟩ := by unfold Addr.add; split <;> simp_all
      rw [hplain, hc j hj, hu]
    obtain ⟨v', w', hrun, h2, h3, _, h5⟩ := run_append_own_at (P := P) w base t ty e i z 1 bytes ht hi hz hsize hby hzs (by omega) v n xs hown ad m c news (by omega) hcells h1 h63 hbytes hbase
    exact ⟨v', w', hrun, h2, h3, h5⟩

theorem wp_append_lst {o : Oper} {a : Act} {K : Act → World → Prop} {Q : Exit → Act → World → Prop} (s x : Operand) (t : TypeId)
    (ho : o.op = .call { callee := .builtin .append, args := #[s, x], argTypes := #[t, t] })
    (base : Nat) (e : TypeId) (i : TypeInfo) (z : Value) (bytes : Nat) (ht : P.underlying t = some (.slice e)) (hi : P.info? e = some i) (hz : i.zero = some z)
    (hsize : i.size = 1) (hby : i.bytes = bytes) (hzs : z.cells.size = 1)
    (v : Value) (n : Nat) (xs : List Value) (hs : a.eval s = v) (hown : w.ownsRow base e 1 v n xs)
    (B : Nat) (A : Option Addr) (m c : Nat) (news : List Value) (hx : a.eval x = .slice A m c) (hm : news.length = m) (hr : Lst w B A news) (h1 : ∀ u ∈ news, u.oneCell' = true)
    (h63 : n + m ≤ maxLen) (hbytes : (n + m) * bytes ≤ 140737488355328) (hbase : base ≤ w.heap.size)
    (h : ∀ v' w', w'.ownsRow base e 1 v' (n + m) (xs ++ news) → w.grownBy w' v.ownBlock → (v'.ownBlock = v.ownBlock ∨ v'.ownBlock = some w.heap.size) → K (a.put o.dst v') w') : o.wp P a w K Q := by
  obtain ⟨v', w', hrun, h2, h3, h4⟩ := run_append_lst (P := P) w base t o.type e i z bytes ht hi hz hsize hby hzs v n xs hown B A m c news hm hr h1 h63 hbytes hbase
  unfold Oper.wp execOp
  simp only [ho, resolve, invoke, builtin, Sem.run_bind, Sem.run_pure, Result.andThen_ok, List.map_toArray, List.map_cons, List.map_nil, hs, hx, hrun]
  exact h v' w' h2 h3 h4

theorem step_append_lst {ops : Array Oper} {o : Oper} {a : Act} {K : Act → World → Prop} {Q : Exit → Act → World → Prop} {E : Prop} (hgd : o.guard = none) (s x : Operand) (t : TypeId)
    (ho : o.op = .call { callee := .builtin .append, args := #[s, x], argTypes := #[t, t] })
    (base : Nat) (e : TypeId) (i : TypeInfo) (z : Value) (bytes : Nat) (ht : P.underlying t = some (.slice e)) (hi : P.info? e = some i) (hz : i.zero = some z)
    (hsize : i.size = 1) (hby : i.bytes = bytes) (hzs : z.cells.size = 1)
    (v : Value) (n : Nat) (xs : List Value) (hs : a.eval s = v) (hown : w.ownsRow base e 1 v n xs)
    (B : Nat) (A : Option Addr) (m c : Nat) (news : List Value) (hx : a.eval x = .slice A m c) (hm : news.length = m) (hr : Lst w B A news) (h1 : ∀ u ∈ news, u.oneCell' = true)
    (h63 : n + m ≤ maxLen) (hbytes : (n + m) * bytes ≤ 140737488355328) (hbase : base ≤ w.heap.size)
    (h : ∀ v' w', w'.ownsRow base e 1 v' (n + m) (xs ++ news) → w.grownBy w' v.ownBlock → (v'.ownBlock = v.ownBlock ∨ v'.ownBlock = some w.heap.size) → K (a.put o.dst v') w') :
    if Region.wanted o (yielded ops a.tmps) = true then Oper.wp P o a w K Q else E := by
  rw [if_pos (by simp [Region.wanted, hgd])]
  exact wp_append_lst w s x t ho base e i z bytes ht hi hz hsize hby hzs v n xs hs hown B A m c news hx hm hr h1 h63 hbytes hbase h

theorem wpList_append_lst {ops : Array Oper} {rest : List Oper} {o : Oper} {a : Act} {Q : Exit → Act → World → Prop} (hgd : o.guard = none) (s x : Operand) (t : TypeId)
    (ho : o.op = .call { callee := .builtin .append, args := #[s, x], argTypes := #[t, t] })
    (base : Nat) (e : TypeId) (i : TypeInfo) (z : Value) (bytes : Nat) (ht : P.underlying t = some (.slice e)) (hi : P.info? e = some i) (hz : i.zero = some z)
    (hsize : i.size = 1) (hby : i.bytes = bytes) (hzs : z.cells.size = 1)
    (v : Value) (n : Nat) (xs : List Value) (hs : a.eval s = v) (hown : w.ownsRow base e 1 v n xs)
    (B : Nat) (A : Option Addr) (m c : Nat) (news : List Value) (hx : a.eval x = .slice A m c) (hm : news.length = m) (hr : Lst w B A news) (h1 : ∀ u ∈ news, u.oneCell' = true)
    (h63 : n + m ≤ maxLen) (hbytes : (n + m) * bytes ≤ 140737488355328) (hbase : base ≤ w.heap.size)
    (h : ∀ v' w', w'.ownsRow base e 1 v' (n + m) (xs ++ news) → w.grownBy w' v.ownBlock → (v'.ownBlock = v.ownBlock ∨ v'.ownBlock = some w.heap.size) → wpList P ops Q rest (a.put o.dst v') w') : wpList P ops Q (o :: rest) a w :=
  wpList_plain hgd fun _ hK => wp_append_lst w s x t ho base e i z bytes ht hi hz hsize hby hzs v n xs hs hown B A m c news hx hm hr h1 h63 hbytes hbase fun v' w' h2 h3 h4 => hK _ _ (h v' w' h2 h3 h4)
end
theorem u8_one (xs : List Int) : ∀ u ∈ u8s xs, u.oneCell' = true := ints_oneCell .u8 xs
end Go.Proofs.YthknkdphofjmhaaDoor.Wd
/- append onto a row of the call's own whose elements have several cells, whatever the source: nil, empty or not. No program is named here. -/
namespace Go.Proofs.YthknkdphofjmhaaDoor.Wd
open Go.RowKit

section
variable {P : Program} (w : World)

theorem run_append_seg (base : Nat) (t ty e : TypeId) (i : TypeInfo) (z : Value) (bytes : Nat) (ht : P.underlying t = some (.slice e)) (hi : P.info? e = some i) (hz : i.zero = some z)
    (size : Nat) (hsize : i.size = size) (hby : i.bytes = bytes) (hzs : z.cells.size = size) (hsz : 0 < size)
    (v : Value) (n : Nat) (xs : List Value) (hown : w.ownsRow base e size v n xs)
    (lo up : Nat) (A : Option Addr) (m c : Nat) (news : List Value) (hm : news.length = m * size) (hr : Cb.Seg w lo up A news) (h1 : ∀ u ∈ news, u.oneCell' = true)
    (h63 : n + m ≤ maxLen) (hbytes : (n + m) * bytes ≤ 140737488355328) (hbase : base ≤ w.heap.size) :
    ∃ v' w', (Builtin.append_ #[t, t] ty #[v, .slice A m c]).run P w = .ok v' w' ∧ w'.ownsRow base e size v' (n + m) (xs ++ news) ∧ w.grownBy w' v.ownBlock ∧
      (v'.ownBlock = v.ownBlock ∨ v'.ownBlock = some w.heap.size) := by
  rcases A with _ | ad
  · have hn : news = [] := by
      rcases hr with h | ⟨b, o, h, _⟩
      · exact h
      · cases h
    subst hn
    obtain rfl : m = 0 := by
      rcases Nat.eq_zero_or_pos m with h | h
      · exact h
      · have := Nat.mul_pos h hsz
        simp at hm
        omega
    exact ⟨v, w, run_append_none w base t ty e i size ht hi v n xs hown c, by simpa using hown, World.grownBy.refl w _, .inl rfl⟩
  · have hcells : ∀ j u, news[j]? = some u → w.cell? (ad.add j) = some u := by
      intro j u hu
      obtain ⟨hj, _⟩ := List.getElem?_eq_some_iff.1 hu
      obtain ⟨b, o, h, _, _, hc⟩ := hr.at_ hj
      injection h with h
      subst h
      have hplain : (⟨b, o, none⟩ : Addr).add j = ⟨b, o + j, none⟩ := by unfold Addr.add; split <;> simp_all
      rw [hplain, hc j hj, hu]
    obtain ⟨v', w', hrun, h2, h3, _, h5⟩ := run_append_own_at (P := P) w base t ty e i z size bytes ht hi hz hsize hby hzs hsz v n xs hown ad m c news (by omega) hcells h1 h63 hbytes hbase
    exact ⟨v', w', hrun, h2, h3, h5⟩

theorem wp_append_seg {o : Oper} {a : Act} {K : Act → World → Prop} {Q : Exit → Act → World → Prop} (s x : Operand) (t : TypeId)
    (ho : o.op = .call { callee := .builtin .append, args := #[s, x], argTypes := #[t, t] })
    (base : Nat) (e : TypeId) (i : TypeInfo) (z : Value) (bytes : Nat) (ht : P.underlying t = some (.slice e)) (hi : P.info? e = some i) (hz : i.zero = some z)
    (size : Nat) (hsize : i.size = size) (hby : i.bytes = bytes) (hzs : z.cells.size = size) (hsz : 0 < size)
    (v : Value) (n : Nat) (xs : List Value) (hs : a.eval s = v) (hown : w.ownsRow base e size v n xs)
    (lo up : Nat) (A : Option Addr) (m c : Nat) (news : List Value) (hx : a.eval x = .slice A m c) (hm : news.length = m * size) (hr : Cb.Seg w lo up A news) (h1 : ∀ u ∈ news, u.oneCell' = true)
    (h63 : n + m ≤ maxLen) (hbytes : (n + m) * bytes ≤ 140737488355328) (hbase : base ≤ w.heap.size)
    (h : ∀ v' w', w'.ownsRow base e size v' (n + m) (xs ++ news) → w.grownBy w' v.ownBlock → (v'.ownBlock = v.ownBlock ∨ v'.ownBlock = some w.heap.size) → K (a.put o.dst v') w') : o.wp P a w K Q := by
  obtain ⟨v', w', hrun, h2, h3, h4⟩ := run_append_seg (P := P) w base t o.type e i z bytes ht hi hz size hsize hby hzs hsz v n xs hown lo up A m c news hm hr h1 h63 hbytes hbase
  unfold Oper.wp execOp
  simp only [ho, resolve, invoke, builtin, Sem.run_bind, Sem.run_pure, Result.andThen_ok, List.map_toArray, List.map_cons, List.map_nil, hs, hx, hrun]
  exact h v' w' h2 h3 h4

theorem step_append_seg {ops : Array Oper} {o : Oper} {a : Act} {K : Act → World → Prop} {Q : Exit → Act → World → Prop} {E : Prop} (hgd : o.guard = none) (s x : Operand) (t : TypeId)
    (ho : o.op = .call { callee := .builtin .append, args := #[s, x], argTypes := #[t, t] })
    (base : Nat) (e : TypeId) (i : TypeInfo) (z : Value) (bytes : Nat) (ht : P.underlying t = some (.slice e)) (hi : P.info? e = some i) (hz : i.zero = some z)
    (size : Nat) (hsize : i.size = size) (hby : i.bytes = bytes) (hzs : z.cells.size = size) (hsz : 0 < size)
    (v : Value) (n : Nat) (xs : List Value) (hs : a.eval s = v) (hown : w.ownsRow base e size v n xs)
    (lo up : Nat) (A : Option Addr) (m c : Nat) (news : List Value) (hx : a.eval x = .slice A m c) (hm : news.length = m * size) (hr : Cb.Seg w lo up A news) (h1 : ∀ u ∈ news, u.oneCell' = true)
    (h63 : n + m ≤ maxLen) (hbytes : (n + m) * bytes ≤ 140737488355328) (hbase : base ≤ w.heap.size)
    (h : ∀ v' w', w'.ownsRow base e size v' (n + m) (xs ++ news) → w.grownBy w' v.ownBlock → (v'.ownBlock = v.ownBlock ∨ v'.ownBlock = some w.heap.size) → K (a.put o.dst v') w') :
    if Region.wanted o (yielded ops a.tmps) = true then Oper.wp P o a w K Q else E := by
  rw [if_pos (by simp [Region.wanted, hgd])]
  exact wp_append_seg w s x t ho base e i z bytes ht hi hz size hsize hby hzs hsz v n xs hs hown lo up A m c news hx hm hr h1 h63 hbytes hbase h

theorem wpList_append_seg {ops : Array Oper} {rest : List Oper} {o : Oper} {a : Act} {Q : Exit → Act → World → Prop} (hgd : o.guard = none) (s x : Operand) (t : TypeId)
    (ho : o.op = .call { callee := .builtin .append, args := #[s, x], argTypes := #[t, t] })
    (base : Nat) (e : TypeId) (i : TypeInfo) (z : Value) (bytes : Nat) (ht : P.underlying t = some (.slice e)) (hi : P.info? e = some i) (hz : i.zero = some z)
    (size : Nat) (hsize : i.size = size) (hby : i.bytes = bytes) (hzs : z.cells.size = size) (hsz : 0 < size)
    (v : Value) (n : Nat) (xs : List Value) (hs : a.eval s = v) (hown : w.ownsRow base e size v n xs)
    (lo up : Nat) (A : Option Addr) (m c : Nat) (news : List Value) (hx : a.eval x = .slice A m c) (hm : news.length = m * size) (hr : Cb.Seg w lo up A news) (h1 : ∀ u ∈ news, u.oneCell' = true)
    (h63 : n + m ≤ maxLen) (hbytes : (n + m) * bytes ≤ 140737488355328) (hbase : base ≤ w.heap.size)
    (h : ∀ v' w', w'.ownsRow base e size v' (n + m) (xs ++ news) → w.grownBy w' v.ownBlock → (v'.ownBlock = v.ownBlock ∨ v'.ownBlock = some w.heap.size) → wpList P ops Q rest (a.put o.dst v') w') : wpList P ops Q (o :: rest) a w :=
  wpList_plain hgd fun _ hK => wp_append_seg w s x t ho base e i z bytes ht hi hz size hsize hby hzs hsz v n xs hs hown lo up A m c news hx hm hr h1 h63 hbytes hbase fun v' w' h2 h3 h4 => hK _ _ (h v' w' h2 h3 h4)
end
end Go.Proofs.YthknkdphofjmhaaDoor.Wd
/- The contracts of cbor's copies: slices.Clip, copyBytes, Num, Bytes, Text. -/
namespace Go.Proofs.YthknkdphofjmhaaDoor.CbCopy
open Go.RowKit Wd Cb

theorem clip_bytes (A : Option Addr) (n c : Nat) (w : World) (hn : n ≤ c) (hc : c ≤ maxLen) :
    Calls Tryd.prog 55 #[.slice A n c] w fun e w' => e = .returned (.slice A n n) ∧ w = w' := by
  unfold maxLen at hc
  go_enter Tryd.func55, Tryd.ntmps55
  go_wp2_with fail
  go_ret
  exact ⟨rfl, rfl⟩
theorem clip_items (A : Option Addr) (n c : Nat) (w : World) (hn : n ≤ c) (hc : c ≤ maxLen) :
    Calls Tryd.prog 38 #[.slice A n c] w fun e w' => e = .returned (.slice A n n) ∧ w = w' := by
  unfold maxLen at hc
  go_enter Tryd.func38, Tryd.ntmps38
  go_wp2_with fail
  go_ret
  exact ⟨rfl, rfl⟩

theorem info_u8 : (Tryd.prog.info? 5).map (fun i => (i.zero, i.size, i.bytes)) = some (some (.int .u8 0), 1, 1) := by kernel_rfl
theorem own_sl {w : World} {base n s : Nat} {e : TypeId} {v : Value} {vs : List Value} (h : w.ownsRow base e s v n vs) : ∃ A c, v = .slice A n c ∧ n ≤ c ∧ c ≤ maxLen := by
  rcases h.2 with ⟨h', hn⟩ | ⟨g, cap', cur, h', _, _, hc, hm, _⟩
  · subst hn
    exact ⟨none, 0, h', Nat.le_refl _, by simp [maxLen]⟩
  · exact ⟨_, _, h', hc, hm⟩

theorem copyBytes_any (A : Option Addr) (B c : Nat) (xs : List Int) (w : World) (hs : Lst w B A (u8s xs)) (hB : B ≤ w.heap.size) (hl : xs.length ≤ 100000000000000) :
    Calls Tryd.prog 70 #[.slice A xs.length c] w fun e w' =>
      ∃ A', e = .returned (.slice A' xs.length xs.length) ∧ Hid (Seg w' w.heap.size w'.heap.size A' (u8s xs)) ∧ Below w.heap.size w w' := by
  obtain ⟨i0, hi0, hz0, hz1, hz2⟩ := info_parts info_u8
  have HM : xs.length ≤ maxLen := by unfold maxLen; omega
  have HS := Lib.hid hs
  clear hs
  go_enter Tryd.func70, Tryd.ntmps70
  go_wp2_with (first
    | (at_builtin
       refine wpList_append_lst _ rfl (.const (.slice none 0 0)) (.tmp 3) _ (by rfl) w.heap.size 5 i0 _ 1 Tryd.underlying23 hi0 hz0 hz1 hz2 rfl (.slice none 0 0) 0 [] (by rfl) ⟨by simp, .inl ⟨rfl, rfl⟩⟩
         B A xs.length c (u8s xs) (by rfl) (by simp) HS.out (u8_one xs) (by omega) (by omega) (Nat.le_refl _) ?_
       intro v1 w1 hown1 hg1 hat1
       have HO1 := Lib.hid hown1
       have HB1 := Lib.hid ((Below.refl w.heap.size w).grown hg1 (Nat.le_refl _) (fun k hk => by simp [Value.ownBlock] at hk))
       clear hown1 hg1 hat1))
  have ho := HO1.out
  rw [Nat.zero_add, List.nil_append] at ho
  obtain ⟨A1, c1, rfl, hc1, hm1⟩ := own_sl ho
  have HO := Lib.hid ho
  clear ho HO1
  refine (clip_bytes A1 xs.length c1 _ hc1 hm1).mono ?_
  rintro e w2 ⟨rfl, rfl⟩
  go_wp2_with fail
  go_ret
  exact ⟨A1, rfl, Lib.hid (Seg.of_own HO.out), HB1.out⟩

/-- What is new: nothing but zeros. -/
theorem zero_item {w w1 : World} {t : TypeId} (hb : Below (w.alloc (.cells #[.int .i64 0, .int .u64 0, .slice none 0 0, .slice none 0 0] t)).heap.size (w.alloc (.cells #[.int .i64 0, .int .u64 0, .slice none 0 0, .slice none 0 0] t)) w1) :
    (w1.cell? ⟨w.heap.size, 0, none⟩ = some (.int .i64 0) ∧ w1.cell? ⟨w.heap.size, 1, none⟩ = some (.int .u64 0) ∧ w1.cell? ⟨w.heap.size, 2, none⟩ = some (.slice none 0 0) ∧ w1.cell? ⟨w.heap.size, 3, none⟩ = some (.slice none 0 0)) ∧
    (w1.frozen? ⟨w.heap.size, 0, none⟩ = false ∧ w1.frozen? ⟨w.heap.size, 1, none⟩ = false ∧ w1.frozen? ⟨w.heap.size, 2, none⟩ = false ∧ w1.frozen? ⟨w.heap.size, 3, none⟩ = false) ∧ w.heap.size < w1.heap.size ∧ Below w.heap.size w w1 := by
  have hB : Blk w1 w.heap.size t #[.int .i64 0, .int .u64 0, .slice none 0 0, .slice none 0 0] := (Blk.new w t _).next hb
  have hs := hb.size
  simp at hs
  exact ⟨⟨by simpa using hB.cell 0, by simpa using hB.cell 1, by simpa using hB.cell 2, by simpa using hB.cell 3⟩, ⟨hB.frozen 0, hB.frozen 1, hB.frozen 2, hB.frozen 3⟩, by omega, ((Below.refl _ _).alloc (Nat.le_refl _) _).trans (hb.mono (by simp))⟩
theorem below_set4 {B b : Nat} {a w : World} (h : Below B a w) (hb : B ≤ b) (x y z u : Value) :
    Below B a ((((w.setCell ⟨b, 0, none⟩ x).setCell ⟨b, 1, none⟩ y).setCell ⟨b, 2, none⟩ z).setCell ⟨b, 3, none⟩ u) := (below_set3 h hb x y z).setCell (p := ⟨b, 3, none⟩) hb _

theorem num_any (n : Int) (w : World) (h0 : 0 ≤ n) (h1 : n ≤ 18446744073709551615) :
    Calls Tryd.prog 29 #[.int .u64 n] w fun e w' => e = .returned (.agg #[.int .i64 0, .int .u64 n, .slice none 0 0, .slice none 0 0]) ∧ Below w.heap.size w w' := by
  go_enter Tryd.func29, Tryd.ntmps29
  go_wp2_with fail
  exact bodyPost_ret (v := .agg #[.int .i64 0, .int .u64 n, .slice none 0 0, .slice none 0 0]) (by simp [results, Tryd.results29, go_sem]) rfl ⟨rfl, (Below.refl _ _).alloc (Nat.le_refl _) _⟩

theorem bytes_any (A : Option Addr) (B c : Nat) (xs : List Int) (w : World) (hs : Lst w B A (u8s xs)) (hB : B ≤ w.heap.size) (hl : xs.length ≤ 100000000000000) :
    Calls Tryd.prog 41 #[.slice A xs.length c] w fun e w' =>
      ∃ A', e = .returned (.agg #[.int .i64 2, .int .u64 0, .slice A' xs.length xs.length, .slice none 0 0]) ∧ Hid (Seg w' w.heap.size w'.heap.size A' (u8s xs)) ∧ Below w.heap.size w w' := by
  have HS := Lib.hid (hs.below' ((Below.refl w.heap.size w).alloc (Nat.le_refl _) (.cells #[.int .i64 0, .int .u64 0, .slice none 0 0, .slice none 0 0] 26)) hB)
  clear hs
  go_enter Tryd.func41, Tryd.ntmps41
  go_wp2_with fail
  refine (copyBytes_any A B c xs _ HS.out (by simp; omega) hl).mono ?_
  rintro e w1 ⟨A1, rfl, HS1, hb1⟩
  obtain ⟨⟨c0, c1, c2, c3⟩, ⟨f0, f1, f2, f3⟩, hz, hb⟩ := zero_item hb1
  have HB := Lib.hid hb
  clear hb hb1
  go_wp2_with fail
  exact bodyPost_ret (v := .agg #[.int .i64 2, .int .u64 0, .slice A1 xs.length xs.length, .slice none 0 0]) (by simp [results, Tryd.results41, go_sem, c0, c1, c2, c3, f0, f1, f2, f3]) rfl
    ⟨A1, rfl, Lib.hid (by
      have h := HS1.out
      rw [World.size_alloc] at h
      exact (h.set4 (.inl (Nat.lt_succ_self _)) _ _ _ _).more (by omega) (by simp [World.setCell])), below_set4 HB.out (Nat.le_refl _) _ _ _ _⟩

/-- A text's bytes as numbers. -/
def nums (s : ByteArray) : List Int := s.data.toList.map fun b => (b.toNat : Int)
theorem nums_length (s : ByteArray) : (nums s).length = s.size := by simp [nums]
theorem nums_bts (s : ByteArray) : St.bts (nums s) := by
  intro x hx
  simp only [nums, List.mem_map] at hx
  obtain ⟨b, _, rfl⟩ := hx
  have := b.toNat_lt
  omega
theorem nums_str (s : ByteArray) : strOfNums (nums s) = s := by
  have h : (strOfNums (nums s)).data.toList = s.data.toList := by
    rw [strOfNums_data]
    unfold nums
    rw [List.map_map]
    conv => rhs; rw [← List.map_id s.data.toList]
    exact List.map_congr_left fun b _ => by simp
  cases s with
  | mk d =>
    cases hs : strOfNums (nums ⟨d⟩) with
    | mk d' =>
      rw [hs] at h
      congr 1
      exact Array.toList_inj.1 h
theorem below_conv {B : Nat} {a w : World} (h : Below B a w) (hB : B ≤ w.heap.size) (e : TypeId) (s : ByteArray) : Below B a (Lib.bytesWorld w e s) :=
  h.trans ⟨rfl, rfl, rfl, by rw [Lib.bytesWorld_size]; omega, fun k hk => Lib.bytesWorld_at_old w e s k (by omega)⟩
theorem conv_lst (w : World) (e : TypeId) (s : ByteArray) : Lst (Lib.bytesWorld w e s) (w.heap.size + 1) (some ⟨w.heap.size, 0, none⟩) (u8s (nums s)) := by
  refine .inr ⟨w.heap.size, 0, rfl, by omega, fun j hj => ?_⟩
  have hj' : j < s.size := by simpa [nums] using hj
  rw [Nat.zero_add, Lib.bytesWorld_cell w e s j hj']
  simp [u8s, nums, List.getD, hj']

theorem text_any (s : ByteArray) (w : World) (hl : s.size ≤ 100000000000000) :
    Calls Tryd.prog 73 #[.string s] w fun e w' =>
      ∃ A', e = .returned (.agg #[.int .i64 3, .int .u64 0, .slice A' (nums s).length (nums s).length, .slice none 0 0]) ∧ Hid (Seg w' w.heap.size w'.heap.size A' (u8s (nums s))) ∧ Below w.heap.size w w' := by
  have hconv := Lib.run_convert_string_bytes (P := Tryd.prog) (w.alloc (.cells #[.int .i64 0, .int .u64 0, .slice none 0 0, .slice none 0 0] 26)) 9 23 5 s Tryd.underlying9 Tryd.underlying23 Tryd.underlying5
  have hs0 := conv_lst (w.alloc (.cells #[.int .i64 0, .int .u64 0, .slice none 0 0, .slice none 0 0] 26)) 5 s
  have HW := Lib.hid (below_conv (Below.refl (w.heap.size + 1) (w.alloc (.cells #[.int .i64 0, .int .u64 0, .slice none 0 0, .slice none 0 0] 26))) (by simp) 5 s)
  have hz := Lib.bytesWorld_size (w.alloc (.cells #[.int .i64 0, .int .u64 0, .slice none 0 0, .slice none 0 0] 26)) 5 s
  have hn := nums_length s
  simp only [World.size_alloc] at hconv hz hs0
  have HZ := Lib.hid hz
  have HS := Lib.hid hs0
  clear hs0
  generalize grownCap (w.alloc (.cells #[.int .i64 0, .int .u64 0, .slice none 0 0, .slice none 0 0] 26)) s.size 0 5 = cap at *
  generalize Lib.bytesWorld (w.alloc (.cells #[.int .i64 0, .int .u64 0, .slice none 0 0, .slice none 0 0] 26)) 5 s = w0 at *
  rw [← hn] at hconv hl
  have HN := Lib.hid hn
  clear hz hn
  go_enter Tryd.func73, Tryd.ntmps73
  go_wp2_with fail
  have hz0 := HZ.out
  refine (copyBytes_any _ (w.heap.size + 1 + 1) cap (nums s) w0 HS.out (by omega) hl).mono ?_
  rintro e w1 ⟨A1, rfl, HS1, hb1⟩
  have hz1 := hb1.size
  obtain ⟨⟨c0, c1, c2, c3⟩, ⟨f0, f1, f2, f3⟩, hz, hb⟩ := zero_item (w := w) (w1 := w1) (t := 26) (by
    have := HW.out.trans (hb1.mono (by omega))
    simpa using this)
  have HB := Lib.hid hb
  clear hb hb1 hconv
  go_wp2_with fail
  exact bodyPost_ret (v := .agg #[.int .i64 3, .int .u64 0, .slice A1 (nums s).length (nums s).length, .slice none 0 0]) (by simp [results, Tryd.results73, go_sem, c0, c1, c2, c3, f0, f1, f2, f3]) rfl
    ⟨A1, rfl, Lib.hid (by
      have h := HS1.out
      rw [hz0] at h
      exact (h.set4 (.inl (by omega)) _ _ _ _).more (by omega) (by simp [World.setCell])), below_set4 HB.out (Nat.le_refl _) _ _ _ _⟩
end Go.Proofs.YthknkdphofjmhaaDoor.CbCopy
/- The contract of cbor.within: are items no more than so many, and no deeper than so deep? -/
namespace Go.Proofs.YthknkdphofjmhaaDoor.CbWithin
open Go.RowKit Wd Cb

/-- Are items no more than lf, and no deeper than dp? -/
def fits (l : List Itm) (dp lf : Int) : Bool := decide ((sizes l : Int) ≤ lf ∧ (deeps l : Int) ≤ dp)
/-- What is left behind the first k. -/
def rest (l : List Itm) (lf : Int) (k : Nat) : Int := lf - l.length - (sizes (l.take k) - k)
theorem rest_step (l : List Itm) (lf : Int) (k : Nat) (h : k < l.length) : rest l lf (k + 1) = rest l lf k - sizes l[k].sub := by
  have h1 := sizes_snoc l k h
  have h2 := size_sub l[k]
  unfold rest
  omega
theorem rest_all (l : List Itm) (lf : Int) : rest l lf l.length = lf - sizes l := by unfold rest; rw [take_all]; omega
theorem rest_le (l : List Itm) (lf : Int) (k : Nat) (h : k ≤ l.length) : rest l lf k ≥ lf - sizes l := by
  have h1 := sizes_append (l.take k) (l.drop k)
  rw [List.take_append_drop] at h1
  have h2 := length_le_sizes (l.drop k)
  simp only [List.length_drop] at h2
  unfold rest
  omega
theorem rest_up (l : List Itm) (lf : Int) (k : Nat) (h : k ≤ l.length) : rest l lf k ≤ lf - l.length := by
  have h2 := length_le_sizes (l.take k)
  rw [List.length_take, Nat.min_eq_left h] at h2
  unfold rest
  omega
theorem no_size (l : List Itm) (dp lf : Int) (k : Nat) (h : k < l.length) (hs : rest l lf k < sizes l[k].sub) : fits l dp lf = false := by
  have h1 := rest_step l lf k h
  have h2 := rest_le l lf (k + 1) (by omega)
  unfold fits
  simp only [decide_eq_false_iff_not]
  omega
theorem no_deep (l : List Itm) (dp lf : Int) (k : Nat) (h : k < l.length) (hs : dp - 1 < deeps l[k].sub) : fits l dp lf = false := by
  have h1 := deep_at l k h
  have h2 := deep_sub l[k]
  unfold fits
  simp only [decide_eq_false_iff_not]
  omega
theorem no_sub (l : List Itm) (dp lf : Int) (k : Nat) (h : k < l.length) (hs : fits l[k].sub (dp - 1) (rest l lf k) = false) : fits l dp lf = false := by
  unfold fits at hs
  simp only [decide_eq_false_iff_not] at hs
  by_cases h1 : rest l lf k < sizes l[k].sub
  · exact no_size l dp lf k h h1
  · exact no_deep l dp lf k h (by omega)
theorem yes_sub (l : List Itm) (dp lf : Int) (k : Nat) (h : k < l.length) (hs : fits l[k].sub (dp - 1) (rest l lf k) = true) (hd : (deeps (l.take k) : Int) ≤ dp) :
    0 ≤ rest l lf (k + 1) ∧ (deeps (l.take (k + 1)) : Int) ≤ dp := by
  unfold fits at hs
  simp only [decide_eq_true_eq] at hs
  have h1 := rest_step l lf k h
  have h2 := deeps_snoc l k h
  have h3 := deep_sub l[k]
  omega

set_option maxRecDepth 100000 in
set_option maxHeartbeats 1000000 in
theorem within_any (N : Nat) : ∀ (l : List Itm) (A : Option Addr) (c g : Nat) (dp lf : Int) (w : World), deeps l ≤ N → ItemsV w 0 g l A → l.length ≤ c → c ≤ maxLen → Blk w g 3 #[.int .i64 lf] →
    0 ≤ dp → dp ≤ 100000 → 0 ≤ lf → lf ≤ 4294967296 →
    Calls Tryd.prog 57 #[.slice A l.length c, .int .i64 dp, .pointer (some ⟨g, 0, none⟩)] w fun e w' =>
      e = .returned (.bool (fits l dp lf)) ∧ Below g w w' ∧ ∃ r : Int, Hid (Blk w' g 3 #[.int .i64 r]) ∧ Hid (fits l dp lf = true → r = lf - sizes l) := by
  induction N with
  | zero =>
    intro l A c g dp lf w hN hI hc hm hB h0 h1 h2 h3
    obtain rfl : l = [] := by
      cases l with
      | nil => rfl
      | cons x l => have := deep_pos x; simp [deeps] at hN; omega
    have HB := Lib.hid hB
    clear hB
    go_enter Tryd.func57, Tryd.ntmps57
    go_wp2_with fail
    go_ret
    exact ⟨ret_bool (by simp [fits, sizes, deeps, h0, h2]), Below.refl _ _, lf, HB, Lib.hid (fun _ => by simp [sizes])⟩
  | succ N ih =>
    intro l A c g dp lf w hN hI hc hm hB h0 h1 h2 h3
    unfold maxLen at hm
    rcases Nat.eq_zero_or_pos l.length with hz | hz
    · obtain rfl : l = [] := List.eq_nil_of_length_eq_zero hz
      have HB := Lib.hid hB
      clear hB
      go_enter Tryd.func57, Tryd.ntmps57
      go_wp2_with fail
      go_ret
      exact ⟨ret_bool (by simp [fits, sizes, deeps, h0, h2]), Below.refl _ _, lf, HB, Lib.hid (fun _ => by simp [sizes])⟩
    · have HB := Lib.hid hB
      have hcell : w.cell? ⟨g, 0, none⟩ = some (.int .i64 lf) := by simpa using hB.cell 0
      have hfr := hB.frozen 0
      have e0 : ((l.length : Int) == 0) = false := by simp only [beq_eq_false_iff_ne, ne_eq]; omega
      by_cases hd : dp = 0
      · have hf : fits l dp lf = false := by
          have h4 := deep_at l 0 hz
          have h5 := deep_pos l[0]
          simp only [fits, decide_eq_false_iff_not]
          omega
        have HF := Lib.hid hf
        clear hf hB
        subst hd
        go_enter Tryd.func57, Tryd.ntmps57
        go_wp2_with fail
        go_ret
        exact ⟨ret_bool HF.out.symm, Below.refl _ _, lf, HB, Lib.hid (fun h => by rw [HF.out] at h; cases h)⟩
      · have e1 : (dp == 0) = false := by simpa using hd
        by_cases hlt : lf < l.length
        · have hf : fits l dp lf = false := by
            have := length_le_sizes l
            simp [fits]; omega
          have HF := Lib.hid hf
          clear hf hB
          go_enter Tryd.func57, Tryd.ntmps57
          go_wp2_with fail
          go_ret
          exact ⟨ret_bool HF.out.symm, Below.refl _ _, lf, HB, Lib.hid (fun h => by rw [HF.out] at h; cases h)⟩
        · have e2 : decide (lf < (l.length : Int)) = false := by simp; omega
          have HB0 : Hid (Blk (w.setCell ⟨g, 0, none⟩ (.int .i64 (lf - l.length))) g 3 #[.int .i64 (rest l lf 0)]) := Lib.hid (by
            have := hB.set_ 0 (.int .i64 (lf - l.length))
            simpa [rest, sizes] using this)
          have HW0 := Lib.hid ((Below.refl g w).setCell (p := ⟨g, 0, none⟩) (Nat.le_refl _) (.int .i64 (lf - l.length)))
          have HI := Lib.hid hI
          clear hB hI
          go_enter Tryd.func57, Tryd.ntmps57
          go_wp2_with fail
          go_loopw [30] (fun i wr => ∃ k : Nat, k ≤ l.length ∧ i = .int .i64 k ∧ 0 ≤ rest l lf k ∧ Hid ((deeps (l.take k) : Int) ≤ dp) ∧ Hid (Blk wr g 3 #[.int .i64 (rest l lf k)]) ∧ Hid (Below g w wr)) (fun i _ => l.length - (intOf i).toNat)
          case atStart => exact ⟨0, by omega, rfl, by simp [rest, sizes]; omega, Lib.hid (by simp [deeps]; omega), HB0, HW0⟩
          case round =>
            obtain ⟨k, hk, rfl, hr, HD, HBk, HWk⟩ := hrel
            clear HB0 HW0
            by_cases hlt : k < l.length
            · obtain ⟨b, o, A1, cc, A2, cc', rfl, b0, b1, _, _, _, q3, _, _, _, _, _, _, q4, q5, q6⟩ := (HI.out.below HWk.out).at_ hlt
              have hup := rest_up l lf k hk
              have hdl := deep_at l k hlt
              have hds := deep_sub l[k]
              go_wp2_with fail
              refine (ih l[k].sub A2 cc' g (dp - 1) (rest l lf k) _ (by omega) q6 q4 q5 HBk.out (by omega) (by omega) hr (by omega)).mono ?_
              rintro e w2 ⟨rfl, hb2, r, HBr, HFr⟩
              cases hf : fits l[k].sub (dp - 1) (rest l lf k)
              · have HF := Lib.hid (no_sub l dp lf k hlt hf)
                have HW2 := Lib.hid (HWk.out.trans hb2)
                clear hb2 hf HFr
                go_wp2_with fail
                go_ret
                exact ⟨ret_bool HF.out.symm, HW2.out, r, HBr, Lib.hid (fun h => by rw [HF.out] at h; cases h)⟩
              · have hy := yes_sub l dp lf k hlt hf HD.out
                have HY := Lib.hid hy
                have hstep := rest_step l lf k hlt
                have hre := HFr.out hf
                have HE : Hid (r = rest l lf (k + 1)) := Lib.hid (by omega)
                have HW2 := Lib.hid (HWk.out.trans hb2)
                clear hb2 hf HFr hy hre hstep
                go_wp2_with fail
                go_roundw
                case rel => exact ⟨k + 1, by omega, by go_num, HY.out.1, Lib.hid HY.out.2, by rw [← HE.out]; exact HBr, HW2⟩
                case measure => simp [intOf]; omega
            · obtain rfl : k = l.length := by omega
              have HE := Lib.hid (rest_all l lf)
              have HF : Hid (fits l dp lf = true) := Lib.hid (by
                have h5 := HD.out
                have h6 := rest_all l lf
                rw [take_all] at h5
                simp only [fits, decide_eq_true_eq]
                omega)
              go_wp2_with fail
              go_ret
              exact ⟨ret_bool HF.out.symm, HWk.out, _, HBk, Lib.hid (fun _ => HE.out)⟩
end Go.Proofs.YthknkdphofjmhaaDoor.CbWithin
