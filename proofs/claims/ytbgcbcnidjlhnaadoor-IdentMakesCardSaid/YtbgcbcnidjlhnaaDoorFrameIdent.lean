/- The opener of a number that came in. -/
import Derived.Test.YtbgcbcnidjlhnaaDoorFrameEid
import Derived.Test.YtbgcbcnidjlhnaaDoorIdP
namespace Go.Proofs.YtbgcbcnidjlhnaaDoor.Fr
open Go.ChangeShapes Go.WideShapes Go.ChangeAt Go.RowKit Go.Joins Go.Deep Wd

section
variable {H : Type} {enc : TypeId × Value → H} {P : Program} {W : World}

theorem array7 {α : Type} {cs : Array α} (h : cs.size = 7) : ∃ c0 c1 c2 c3 c4 c5 c6, cs = #[c0, c1, c2, c3, c4, c5, c6] := by
  obtain ⟨l⟩ := cs
  match l, h with
  | [c0, c1, c2, c3, c4, c5, c6], _ => exact ⟨c0, c1, c2, c3, c4, c5, c6, rfl⟩
/-- A number's seven cells, read. -/
theorem trod_id {t te tb tn ts : TypeId} {e0 e1 e2 f0 f1 f2 f3 f4 : Field} {fuel : Nat} {c0 c1 c2 c3 c4 c5 c6 : Value} {x : DataW H × List MemPlace} (ht : P.underlying t = some (.struct #[e0, e1, e2])) (hs : P.underlying te = some (.struct #[f0, f1, f2, f3, f4])) (hone : oneCellFields P #[f0, f1, f2, f3, f4] = true) (hC : P.cellsOf te = 5) (hn : P.cellsOf tn = 1)
    (o0 : e0.offset = 0) (o1 : e1.offset = 5) (o2 : e2.offset = 6) (y0 : e0.type = te) (y1 : e1.type = tn) (y2 : e2.type = tn)
    (z0 : f0.type = tb) (z1 : f1.type = tn) (z2 : f2.type = tn) (z3 : f3.type = ts) (z4 : f4.type = ts) (u0 : P.underlying tb = some .bool) (u1 : P.underlying tn = some (.int .u64)) (u2 : P.underlying ts = some .string)
    (h : DataW.trod enc P W 0 (fun _ => true) true fuel t [c0, c1, c2, c3, c4, c5, c6] = some x) : ∃ x : Eid.Id, [c0, c1, c2, c3, c4, c5, c6] = x.cells.toList ∧ x.ok := by
  obtain ⟨xs, n, _, rfl, hl, hlen, hf⟩ := DataW.trod_struct ht h
  match xs, hlen with
  | [a0, a1, a2], _ =>
    have g0 := hf 0 e0 rfl
    have g1 := hf 1 e1 rfl
    have g2 := hf 2 e2 rfl
    rw [y0, o0, hC] at g0
    rw [y1, o1, hn] at g1
    rw [y2, o2, hn] at g2
    simp only [List.drop, List.take, List.getElem_cons_zero, List.getElem_cons_succ] at g0 g1 g2
    obtain ⟨b0, b1, b2, b3, b4, m, h0, h1, h2, h3, h4⟩ := trod_struct5 hs g0
    obtain ⟨q0, k0⟩ := hone_of hone 0 f0 rfl
    obtain ⟨q1, k1⟩ := hone_of hone 1 f1 rfl
    obtain ⟨q2, k2⟩ := hone_of hone 2 f2 rfl
    obtain ⟨q3, k3⟩ := hone_of hone 3 f3 rfl
    obtain ⟨q4, k4⟩ := hone_of hone 4 f4 rfl
    replace h0 : DataW.trod enc P W 0 (fun _ => true) true m f0.type [c0] = some b0 := by simpa [q0, k0] using h0
    replace h1 : DataW.trod enc P W 0 (fun _ => true) true m f1.type [c1] = some b1 := by simpa [q1, k1] using h1
    replace h2 : DataW.trod enc P W 0 (fun _ => true) true m f2.type [c2] = some b2 := by simpa [q2, k2] using h2
    replace h3 : DataW.trod enc P W 0 (fun _ => true) true m f3.type [c3] = some b3 := by simpa [q3, k3] using h3
    replace h4 : DataW.trod enc P W 0 (fun _ => true) true m f4.type [c4] = some b4 := by simpa [q4, k4] using h4
    subst z0
    subst z1
    subst z3
    rw [z2] at h2
    rw [z4] at h4
    obtain ⟨b, r0, _⟩ := DataW.trod_bool u0 h0
    obtain ⟨a, r1, _, w1⟩ := DataW.trod_int u1 h1
    obtain ⟨c, r2, _, w2⟩ := DataW.trod_int u1 h2
    obtain ⟨s, r3, _, w3⟩ := DataW.trod_string u2 h3
    obtain ⟨s', r4, _, w4⟩ := DataW.trod_string u2 h4
    obtain ⟨d, r5, _, w5⟩ := DataW.trod_int u1 g1
    obtain ⟨e, r6, _, w6⟩ := DataW.trod_int u1 g2
    simp at r0 r1 r2 r3 r4 r5 r6
    subst r0 r1 r2 r3 r4 r5 r6
    have v1 := bounds_u64 w1
    have v2 := bounds_u64 w2
    have v5 := bounds_u64 w5
    have v6 := bounds_u64 w6
    exact ⟨⟨⟨b, a, c, s, s'⟩, d, e⟩, rfl, ⟨v1.1, v1.2, v2.1, v2.2, w3, w4⟩, v5.1, v5.2, v6.1, v6.2⟩
/-- A number, by value. -/
theorem open_id {t te tb tn ts : TypeId} {e0 e1 e2 f0 f1 f2 f3 f4 : Field} {base : Nat} {v : Value} {d : DataW H} {p : List MemPlace} (ht : P.underlying t = some (.struct #[e0, e1, e2])) (hct : P.cellsOf t = 7) (hs : P.underlying te = some (.struct #[f0, f1, f2, f3, f4])) (hone : oneCellFields P #[f0, f1, f2, f3, f4] = true) (hC : P.cellsOf te = 5) (hn : P.cellsOf tn = 1)
    (o0 : e0.offset = 0) (o1 : e1.offset = 5) (o2 : e2.offset = 6) (y0 : e0.type = te) (y1 : e1.type = tn) (y2 : e2.type = tn)
    (z0 : f0.type = tb) (z1 : f1.type = tn) (z2 : f2.type = tn) (z3 : f3.type = ts) (z4 : f4.type = ts) (u0 : P.underlying tb = some .bool) (u1 : P.underlying tn = some (.int .u64)) (u2 : P.underlying ts = some .string)
    (hval : Value.okWide P W .any base t v) (h : DataW.Trod enc P W 0 (fun _ => true) true t v d p) : ∃ x : Eid.Id, v = x.val ∧ x.ok := by
  obtain ⟨cs, rfl, hsz⟩ := okWide_struct ht hval
  obtain ⟨c0, c1, c2, c3, c4, c5, c6, rfl⟩ := array7 (hsz.trans hct)
  obtain ⟨fuel, hf⟩ := h
  obtain ⟨x, e, o⟩ := trod_id ht hs hone hC hn o0 o1 o2 y0 y1 y2 z0 z1 z2 z3 z4 u0 u1 u2 (by simpa [Value.cells] using hf)
  refine ⟨x, ?_, o⟩
  have e' : (#[c0, c1, c2, c3, c4, c5, c6] : Array Value) = x.cells := by rw [← Array.toList_inj]; exact e
  rw [e']
end
end Go.Proofs.YtbgcbcnidjlhnaaDoor.Fr
