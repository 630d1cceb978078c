/- The opener of a slice of calls (each: a bool, a uint64 and a number) that came in. -/
import Derived.Test.YtbgcbcnidjlhnaaDoorFrameItem
import Derived.Test.YtbgcbcnidjlhnaaDoorFrameIdent
namespace Go.Proofs.YtbgcbcnidjlhnaaDoor.Fr
open Go.ChangeShapes Go.WideShapes Go.ChangeAt Go.RowKit Go.Joins Go.Deep Wd

/-- A call. -/
structure Opr where
  keep : Bool
  now : Int
  x : Eid.Id
structure Opr.ok (p : Opr) : Prop where
  n0 : 0 ≤ p.now
  n1 : p.now ≤ 18446744073709551615
  x : p.x.ok
abbrev Opr.cells (p : Opr) : List Value := .bool p.keep :: .int .u64 p.now :: p.x.cells.toList
/-- Calls behind a slice's head. -/
def OpsAt (w : World) (B : Nat) (A : Option Addr) (l : List Opr) : Prop := ∀ k (h : k < l.length), ∃ b o, A = some ⟨b, o, none⟩ ∧ b < B ∧ ∀ j, j < 9 → w.cell? ⟨b, o + k * 9 + j, none⟩ = (l[k]).cells[j]?
section
variable {H : Type} {enc : TypeId × Value → H} {P : Program} {W : World}

theorem trod_op {e ti te tb tn ts : TypeId} {g0 g1 g2 e0 e1 e2 f0 f1 f2 f3 f4 : Field} {fuel : Nat} {cs : List Value} {x : DataW H × List MemPlace} (he : P.underlying e = some (.struct #[g0, g1, g2])) (hl : cs.length = 9) (a0 : g0.offset = 0) (a1 : g1.offset = 1) (a2 : g2.offset = 2) (b0 : g0.type = tb) (b1 : g1.type = tn) (b2 : g2.type = ti) (cb : P.cellsOf tb = 1) (ci : P.cellsOf ti = 7)
    (ht : P.underlying ti = some (.struct #[e0, e1, e2])) (hs : P.underlying te = some (.struct #[f0, f1, f2, f3, f4])) (hone : oneCellFields P #[f0, f1, f2, f3, f4] = true) (hC : P.cellsOf te = 5) (hn : P.cellsOf tn = 1)
    (o0 : e0.offset = 0) (o1 : e1.offset = 5) (o2 : e2.offset = 6) (y0 : e0.type = te) (y1 : e1.type = tn) (y2 : e2.type = tn)
    (z0 : f0.type = tb) (z1 : f1.type = tn) (z2 : f2.type = tn) (z3 : f3.type = ts) (z4 : f4.type = ts) (u0 : P.underlying tb = some .bool) (u1 : P.underlying tn = some (.int .u64)) (u2 : P.underlying ts = some .string)
    (h : DataW.trod enc P W 0 (fun _ => true) true fuel e cs = some x) : ∃ p : Opr, cs = p.cells ∧ p.ok := by
  obtain ⟨v0, v1, v2, v3, v4, v5, v6, v7, v8, rfl⟩ : ∃ a b c d e f g h i, cs = [a, b, c, d, e, f, g, h, i] := by
    match cs, hl with
    | [a, b, c, d, e, f, g, h, i], _ => exact ⟨a, b, c, d, e, f, g, h, i, rfl⟩
  obtain ⟨xs, n, _, rfl, _, hlen, hf⟩ := DataW.trod_struct he h
  match xs, hlen with
  | [x0, x1, x2], _ =>
    have q0 := hf 0 g0 rfl
    have q1 := hf 1 g1 rfl
    have q2 := hf 2 g2 rfl
    rw [b0, a0, cb] at q0
    rw [b1, a1, hn] at q1
    rw [b2, a2, ci] at q2
    simp only [List.drop, List.take, List.getElem_cons_zero, List.getElem_cons_succ] at q0 q1 q2
    obtain ⟨b, r0, _⟩ := DataW.trod_bool u0 q0
    obtain ⟨a, r1, _, w1⟩ := DataW.trod_int u1 q1
    obtain ⟨y, hy, oy⟩ := trod_id ht hs hone hC hn o0 o1 o2 y0 y1 y2 z0 z1 z2 z3 z4 u0 u1 u2 q2
    simp only [List.cons.injEq, and_true] at r0 r1
    have v := bounds_u64 w1
    refine ⟨⟨b, a, y⟩, ?_, v.1, v.2, oy⟩
    show [v0, v1, v2, v3, v4, v5, v6, v7, v8] = .bool b :: .int .u64 a :: y.cells.toList
    rw [← hy, r0, r1]
theorem open_ops {t e ti te tb tn ts : TypeId} {g0 g1 g2 e0 e1 e2 f0 f1 f2 f3 f4 : Field} {base : Nat} {v : Value} {d : DataW H} {p : List MemPlace} (hsl : P.underlying t = some (.slice e)) (he : P.underlying e = some (.struct #[g0, g1, g2])) (hce : P.cellsOf e = 9) (a0 : g0.offset = 0) (a1 : g1.offset = 1) (a2 : g2.offset = 2) (b0 : g0.type = tb) (b1 : g1.type = tn) (b2 : g2.type = ti) (cb : P.cellsOf tb = 1) (ci : P.cellsOf ti = 7)
    (ht : P.underlying ti = some (.struct #[e0, e1, e2])) (hs : P.underlying te = some (.struct #[f0, f1, f2, f3, f4])) (hone : oneCellFields P #[f0, f1, f2, f3, f4] = true) (hC : P.cellsOf te = 5) (hn : P.cellsOf tn = 1)
    (o0 : e0.offset = 0) (o1 : e1.offset = 5) (o2 : e2.offset = 6) (y0 : e0.type = te) (y1 : e1.type = tn) (y2 : e2.type = tn)
    (z0 : f0.type = tb) (z1 : f1.type = tn) (z2 : f2.type = tn) (z3 : f3.type = ts) (z4 : f4.type = ts) (u0 : P.underlying tb = some .bool) (u1 : P.underlying tn = some (.int .u64)) (u2 : P.underlying ts = some .string)
    (hval : Value.okWide P W .any base t v) (h : DataW.Trod enc P W 0 (fun _ => true) true t v d p) : ∃ A c l, v = .slice A (List.length l) c ∧ l.length ≤ c ∧ c ≤ maxLen ∧ OpsAt W W.heap.size A l ∧ ∀ q ∈ l, Opr.ok q := by
  obtain ⟨a, len, cap, rfl⟩ := okWide_slice hsl hval
  obtain ⟨fuel, hf⟩ := h
  rcases open_slice hsl hf with ⟨hcs, _⟩ | ⟨x, l, c, M, n', D, Pl, hcs, _, hlc, hm, hM, hy, hall⟩
  · simp [Value.cells] at hcs
    obtain ⟨rfl, rfl, rfl⟩ := hcs
    exact ⟨none, 0, [], rfl, Nat.le_refl _, by simp [maxLen], fun k hk => absurd hk (Nat.not_lt_zero _), fun x hx => by simp at hx⟩
  · simp [Value.cells] at hcs
    obtain ⟨rfl, rfl, rfl⟩ := hcs
    simp at hM
    have hcM : M = cap := hM
    clear hM
    subst M
    have hex : ∀ i, i < len → ∃ q : Opr, q.ok ∧ ∀ j, j < 9 → W.cell? (x.add (i * 9 + j)) = q.cells[j]? := by
      intro i hi
      obtain ⟨cs', g1, g2⟩ := hall i (by omega)
      rw [hce] at g1
      obtain ⟨_, q2, q3⟩ := World.cells?_some g1
      obtain ⟨q, rfl, oq⟩ := trod_op he q2 a0 a1 a2 b0 b1 b2 cb ci ht hs hone hC hn o0 o1 o2 y0 y1 y2 z0 z1 z2 z3 z4 u0 u1 u2 g2
      exact ⟨q, oq, fun j hj => by rw [← q3 j hj, add_add]⟩
    haveI : Inhabited Opr := ⟨⟨false, 0, Eid.zeroId⟩⟩
    obtain ⟨q, hq⟩ := choose_lt (α := Opr) (p := fun i q => q.ok ∧ ∀ j, j < 9 → W.cell? (x.add (i * 9 + j)) = q.cells[j]?) hex
    have hll : ((List.range len).map q).length = len := by simp
    refine ⟨some x, cap, (List.range len).map q, by rw [hll], by omega, hm, fun k hk => ?_, fun y hy => ?_⟩
    · rw [hll] at hk
      obtain ⟨_, q3⟩ := hq k hk
      have hs0 : W.cell? (x.add (0 * 9 + 0)) = some (.bool (q 0).keep) := (hq 0 (by omega)).2 0 (by omega)
      have hlt : x.block < W.heap.size := by have := lt_of_cell hs0; rwa [block_add] at this
      obtain ⟨b, o, spot⟩ := x
      have hspot : spot = none := by simpa [Addr.add] using World.cell?_spot hs0
      subst hspot
      refine ⟨b, o, rfl, hlt, fun j hj => ?_⟩
      have := q3 j hj
      rw [plain_add] at this
      rw [Nat.add_assoc, this]
      simp
    · obtain ⟨i, hi, rfl⟩ := List.mem_map.1 hy
      exact (hq i (List.mem_range.1 hi)).1
end
end Go.Proofs.YtbgcbcnidjlhnaaDoor.Fr
