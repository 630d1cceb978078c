/- Texts of my own, laid together: PrimX, PrimEq. -/
import Derived.Test.YtbgcbcnidjlhnaaDoorZs15
import Derived.Test.YtbgcbcnidjlhnaaDoorIdEq
import Derived.Test.YtbgcbcnidjlhnaaDoorEidEq
/- A row's item is put in its place: plain words; equality of two blocks. -/
namespace Go.Proofs.YtbgcbcnidjlhnaaDoor.Prim
open Go.RowKit Wd Cb Eid EncB CbCopy CbList CbRight CbWrite CbLays CbSame

theorem repO_len {w : World} {lo hi : Nat} {x : Itm} {cs : List Value} (h : RepO w lo hi x cs) : cs.length = 4 := h.rep.length
/-- A number in the k-th place. -/
theorem lays_put {w : World} (n : Int) (hn : 0 ≤ n ∧ n ≤ 18446744073709551615) : ∀ {l : List Itm} {lo hi : Nat} {vs : List Value} (k : Nat), k < l.length → Lays w lo hi l vs → Lays w lo hi (l.set k (iN n)) (vs.take (k * 4) ++ [.int .i64 0, .int .u64 n, .slice none 0 0, .slice none 0 0] ++ vs.drop (k * 4 + 4))
  | x :: l, lo, hi, vs, 0, _, h => by
    unfold Lays at h
    obtain ⟨mid, c, r, rfl, h1, h2, h3⟩ := h
    have hc := repO_len h2
    show Lays w lo hi (iN n :: l) _
    unfold Lays
    refine ⟨mid, [.int .i64 0, .int .u64 n, .slice none 0 0, .slice none 0 0], r, ?_, h1, ⟨none, none, rfl, ⟨by show (-9223372036854775808 : Int) ≤ 0; omega, by show (0 : Int) ≤ _; omega⟩, hn, fun q hq => (by cases hq), by show 0 ≤ maxLen; omega, .inl rfl, by show 0 ≤ maxLen; omega, ItemsV.nil⟩, h3⟩
    rw [Nat.zero_mul, List.take_zero, List.nil_append, Nat.zero_add, List.drop_append, List.drop_of_length_le (by omega), hc, List.nil_append]
    rfl
  | x :: l, lo, hi, vs, k + 1, hk, h => by
    unfold Lays at h
    obtain ⟨mid, c, r, rfl, h1, h2, h3⟩ := h
    have hc := repO_len h2
    have ih := lays_put n hn (l := l) k (by simpa using hk) h3
    show Lays w lo hi (x :: l.set k (iN n)) _
    unfold Lays
    refine ⟨mid, c, _, ?_, h1, h2, ih⟩
    rw [List.take_append, List.take_of_length_le (by omega), List.drop_append, List.drop_of_length_le (by omega), hc, show (k + 1) * 4 - 4 = k * 4 by omega, show (k + 1) * 4 + 4 - 4 = k * 4 + 4 by omega, List.nil_append, List.append_assoc, List.append_assoc, List.append_assoc]
/-- What an item's four cells in a row are. -/
theorem lays_four {w : World} : ∀ {l : List Itm} {lo hi : Nat} {vs : List Value} (k : Nat) (hk : k < l.length), Lays w lo hi l vs → ∃ A A', (vs.drop (k * 4)).take 4 = [.int .i64 l[k].kind, .int .u64 l[k].num, .slice A l[k].bs.length l[k].bs.length, .slice A' l[k].sub.length l[k].sub.length]
  | x :: l, lo, hi, vs, 0, _, h => by
    unfold Lays at h
    obtain ⟨mid, c, r, rfl, h1, ⟨A, A', rfl, _⟩, h3⟩ := h
    exact ⟨A, A', by simp⟩
  | x :: l, lo, hi, vs, k + 1, hk, h => by
    unfold Lays at h
    obtain ⟨mid, c, r, rfl, h1, h2, h3⟩ := h
    have hc := repO_len h2
    obtain ⟨A, A', e⟩ := lays_four (l := l) k (by simpa using hk) h3
    refine ⟨A, A', ?_⟩
    rw [List.drop_append, List.drop_of_length_le (by omega), hc, show (k + 1) * 4 - 4 = k * 4 by omega, List.nil_append, e]
    rfl
/-- An item in its place in a row: its cells. -/
theorem row_at {w : World} {g lo hi : Nat} {l : List Itm} (h : Row w g lo hi l) (k : Nat) (hk : k < l.length) : ∃ A A', (w.cell? ⟨g, k * 4, none⟩ = some (.int .i64 l[k].kind) ∧ w.cell? ⟨g, k * 4 + 1, none⟩ = some (.int .u64 l[k].num) ∧ w.cell? ⟨g, k * 4 + 2, none⟩ = some (.slice A l[k].bs.length l[k].bs.length) ∧ w.cell? ⟨g, k * 4 + 3, none⟩ = some (.slice A' l[k].sub.length l[k].sub.length)) ∧
    (w.frozen? ⟨g, k * 4, none⟩ = false ∧ w.frozen? ⟨g, k * 4 + 1, none⟩ = false ∧ w.frozen? ⟨g, k * 4 + 2, none⟩ = false ∧ w.frozen? ⟨g, k * 4 + 3, none⟩ = false) := by
  obtain ⟨vs, sp, hb, hl⟩ := h
  obtain ⟨A, A', e⟩ := lays_four k hk hl
  have hv := hl.reps.length
  have hat : ∀ f, f < 4 → (vs ++ sp).toArray[k * 4 + f]? = ((vs.drop (k * 4)).take 4)[f]? := fun f hf => by
    rw [List.getElem?_toArray, List.getElem?_append_left (by omega), List.getElem?_take, if_pos hf, List.getElem?_drop]
  refine ⟨A, A', ⟨?_, ?_, ?_, ?_⟩, hb.frozen _, hb.frozen _, hb.frozen _, hb.frozen _⟩
  · rw [hb.cell, show k * 4 = k * 4 + 0 from rfl, hat 0 (by omega), e]; rfl
  · rw [hb.cell, hat 1 (by omega), e]; rfl
  · rw [hb.cell, hat 2 (by omega), e]; rfl
  · rw [hb.cell, hat 3 (by omega), e]; rfl
theorem arr_put (vs sp : List Value) (a b c d : Value) (k : Nat) (hk : k * 4 + 4 ≤ vs.length) :
    ((((vs ++ sp).toArray.setIfInBounds (k * 4) a).setIfInBounds (k * 4 + 1) b).setIfInBounds (k * 4 + 2) c).setIfInBounds (k * 4 + 3) d = ((vs.take (k * 4) ++ [a, b, c, d] ++ vs.drop (k * 4 + 4)) ++ sp).toArray := by
  apply Array.ext_getElem?
  intro i
  simp only [List.setIfInBounds_toArray, List.getElem?_toArray, List.getElem?_set, List.length_set, List.length_append]
  rcases (show i < k * 4 ∨ i = k * 4 ∨ i = k * 4 + 1 ∨ i = k * 4 + 2 ∨ i = k * 4 + 3 ∨ k * 4 + 4 ≤ i by omega) with h | rfl | rfl | rfl | rfl | h
  · rw [if_neg (by omega), if_neg (by omega), if_neg (by omega), if_neg (by omega), List.getElem?_append_left (by omega), List.append_assoc, List.append_assoc, List.getElem?_append_left (by rw [List.length_take]; omega), List.getElem?_take, if_pos h]
  · rw [if_neg (by omega), if_neg (by omega), if_neg (by omega), if_pos rfl, if_pos (by omega), List.append_assoc, List.append_assoc, List.getElem?_append_right (by rw [List.length_take]; omega), List.length_take, Nat.min_eq_left (by omega), Nat.sub_self]
    rfl
  · rw [if_neg (by omega), if_neg (by omega), if_pos rfl, if_pos (by omega), List.append_assoc, List.append_assoc, List.getElem?_append_right (by rw [List.length_take]; omega), List.length_take, Nat.min_eq_left (by omega), show k * 4 + 1 - k * 4 = 1 by omega]
    rfl
  · rw [if_neg (by omega), if_pos rfl, if_pos (by omega), List.append_assoc, List.append_assoc, List.getElem?_append_right (by rw [List.length_take]; omega), List.length_take, Nat.min_eq_left (by omega), show k * 4 + 2 - k * 4 = 2 by omega]
    rfl
  · rw [if_pos rfl, if_pos (by omega), List.append_assoc, List.append_assoc, List.getElem?_append_right (by rw [List.length_take]; omega), List.length_take, Nat.min_eq_left (by omega), show k * 4 + 3 - k * 4 = 3 by omega]
    rfl
  · rw [if_neg (by omega), if_neg (by omega), if_neg (by omega), if_neg (by omega)]
    by_cases hi : i < vs.length
    · have e : (vs.take (k * 4) ++ [a, b, c, d] ++ vs.drop (k * 4 + 4) ++ sp)[i]? = vs[i]? := by
        rw [List.getElem?_append_left (by simp; omega), List.getElem?_append_right (by simp; omega), List.getElem?_drop]
        congr 1
        simp
        omega
      rw [e, List.getElem?_append_left hi]
    · have e : (vs.take (k * 4) ++ [a, b, c, d] ++ vs.drop (k * 4 + 4) ++ sp)[i]? = sp[i - vs.length]? := by
        rw [List.getElem?_append_right (by simp; omega)]
        congr 1
        simp
        omega
      rw [e, List.getElem?_append_right (by omega)]
/-- A number is stored in the k-th place of a row. -/
theorem row_put {w : World} {g lo hi : Nat} {l : List Itm} (h : Row w g lo hi l) (hlo : g < lo) (n : Int) (hn : 0 ≤ n ∧ n ≤ 18446744073709551615) (k : Nat) (hk : k < l.length) :
    Row ((((w.setCell ⟨g, k * 4, none⟩ (.int .i64 0)).setCell ⟨g, k * 4 + 1, none⟩ (.int .u64 n)).setCell ⟨g, k * 4 + 2, none⟩ (.slice none 0 0)).setCell ⟨g, k * 4 + 3, none⟩ (.slice none 0 0)) g lo hi (l.set k (iN n)) := by
  obtain ⟨vs, sp, hb, hl⟩ := h
  have hv := hl.reps.length
  have h4 := (((hb.set_ (k * 4) (.int .i64 0)).set_ (k * 4 + 1) (.int .u64 n)).set_ (k * 4 + 2) (.slice none 0 0)).set_ (k * 4 + 3) (.slice none 0 0)
  rw [arr_put vs sp _ _ _ _ k (by omega)] at h4
  refine ⟨_, sp, h4, (lays_put n hn k hk hl).keep fun i h1 _ => ?_⟩
  exact (Below.heap_setCell _ _ _ _ (by show i ≠ g; omega)).trans ((Below.heap_setCell _ _ _ _ (by show i ≠ g; omega)).trans ((Below.heap_setCell _ _ _ _ (by show i ≠ g; omega)).trans (Below.heap_setCell _ _ _ _ (by show i ≠ g; omega))))
/-- Are two blocks one? -/
def prEq (p q : Prm) : Bool := p.flags == q.flags && (p.sum == q.sum && (nmEq p.dest q.dest && (nmEq p.report q.report && (idEq p.id q.id && p.life == q.life))))
theorem prEq_iff (p q : Prm) : prEq p q = true ↔ p = q := by
  obtain ⟨a1, a2, a3, a4, a5, a6⟩ := p
  obtain ⟨b1, b2, b3, b4, b5, b6⟩ := q
  simp only [prEq, Bool.and_eq_true, beq_iff_eq, nmEq_iff, idEq_iff, Prm.mk.injEq]
theorem prEq_self (p : Prm) : prEq p p = true := (prEq_iff p p).2 rfl
end Go.Proofs.YtbgcbcnidjlhnaaDoor.Prim
/- Equality of two first blocks, as the model has it. -/
namespace Go.Proofs.YtbgcbcnidjlhnaaDoor.Prim
open Go.RowKit Wd Cb Eid
attribute [local go_sem ↓ high] run_nm run_id
set_option maxRecDepth 100000 in
set_option maxHeartbeats 8000000 in
theorem run_prm (w : World) (d : Nat) (a1i b1i c1i a2i b2i c2i : Bool) (f1 m1 a1n a1s b1n b1s c1n c1s t1 q1 l1 f2 m2 a2n a2s b2n b2s c2n c2s t2 q2 l2 : Int) (a1h a1d b1h b1d c1h c1d a2h a2d b2h b2d c2h c2d : ByteArray) :
    (Op.equalIn (d + 4) 90 (.agg #[.int .u64 f1, .int .i64 m1, .bool a1i, .int .u64 a1n, .int .u64 a1s, .string a1h, .string a1d, .bool b1i, .int .u64 b1n, .int .u64 b1s, .string b1h, .string b1d, .bool c1i, .int .u64 c1n, .int .u64 c1s, .string c1h, .string c1d, .int .u64 t1, .int .u64 q1, .int .u64 l1]) (.agg #[.int .u64 f2, .int .i64 m2, .bool a2i, .int .u64 a2n, .int .u64 a2s, .string a2h, .string a2d, .bool b2i, .int .u64 b2n, .int .u64 b2s, .string b2h, .string b2d, .bool c2i, .int .u64 c2n, .int .u64 c2s, .string c2h, .string c2d, .int .u64 t2, .int .u64 q2, .int .u64 l2])).run Tryd.prog w = .ok (prEq ⟨f1, m1, ⟨a1i, a1n, a1s, a1h, a1d⟩, ⟨b1i, b1n, b1s, b1h, b1d⟩, ⟨⟨c1i, c1n, c1s, c1h, c1d⟩, t1, q1⟩, l1⟩ ⟨f2, m2, ⟨a2i, a2n, a2s, a2h, a2d⟩, ⟨b2i, b2n, b2s, b2h, b2d⟩, ⟨⟨c2i, c2n, c2s, c2h, c2d⟩, t2, q2⟩, l2⟩) w := by
  rw [run_equalIn_struct w (d + 3) 90 _ _ (by kernel_rfl) (by kernel_rfl)]
  simp only [Program.fieldsOf, Tryd.underlying90]
  unfold prEq
  cases e1 : (f1 == f2) <;> cases e2 : (m1 == m2) <;> cases e3 : nmEq ⟨a1i, a1n, a1s, a1h, a1d⟩ ⟨a2i, a2n, a2s, a2h, a2d⟩ <;> cases e4 : nmEq ⟨b1i, b1n, b1s, b1h, b1d⟩ ⟨b2i, b2n, b2s, b2h, b2d⟩ <;> cases e5 : idEq ⟨⟨c1i, c1n, c1s, c1h, c1d⟩, t1, q1⟩ ⟨⟨c2i, c2n, c2s, c2h, c2d⟩, t2, q2⟩ <;> cases e6 : (l1 == l2) <;> go_simp
end Go.Proofs.YtbgcbcnidjlhnaaDoor.Prim
