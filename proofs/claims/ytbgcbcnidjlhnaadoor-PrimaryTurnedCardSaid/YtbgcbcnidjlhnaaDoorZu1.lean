/- Texts of my own, laid together: FrameEid, FrameIdent, FramePrim. -/
import Derived.Test.YtbgcbcnidjlhnaaDoorZs0
import Derived.Test.YtbgcbcnidjlhnaaDoorZs2
import Derived.ChangeMaps
import Derived.Test.YtbgcbcnidjlhnaaDoorIdP
import Derived.Test.YtbgcbcnidjlhnaaDoorPrimR
/- The opener of a name that came in. -/
namespace Go.Proofs.YtbgcbcnidjlhnaaDoor.Fr
open Go.ChangeShapes Go.WideShapes Go.ChangeAt Go.RowKit Go.Joins Go.Deep Wd

section
variable {H : Type} {enc : TypeId × Value → H} {P : Program} {W : World}

theorem array5 {α : Type} {cs : Array α} (h : cs.size = 5) : ∃ c0 c1 c2 c3 c4, cs = #[c0, c1, c2, c3, c4] := by
  obtain ⟨l⟩ := cs
  match l, h with
  | [c0, c1, c2, c3, c4], _ => exact ⟨c0, c1, c2, c3, c4, rfl⟩
theorem trod_struct5 {w : World} {base : Nat} {spare : Nat → Bool} {held : Bool} {t : TypeId} {f0 f1 f2 f3 f4 : Field} {fuel : Nat} {cs : List Value} {x : DataW H × List MemPlace} (ht : P.underlying t = some (.struct #[f0, f1, f2, f3, f4])) (h : DataW.trod enc P w base spare held fuel t cs = some x) :
    ∃ y0 y1 y2 y3 y4 n, DataW.trod enc P w base spare held n f0.type ((cs.drop f0.offset).take (P.cellsOf f0.type)) = some y0 ∧
      DataW.trod enc P w base spare held n f1.type ((cs.drop f1.offset).take (P.cellsOf f1.type)) = some y1 ∧ DataW.trod enc P w base spare held n f2.type ((cs.drop f2.offset).take (P.cellsOf f2.type)) = some y2 ∧
      DataW.trod enc P w base spare held n f3.type ((cs.drop f3.offset).take (P.cellsOf f3.type)) = some y3 ∧ DataW.trod enc P w base spare held n f4.type ((cs.drop f4.offset).take (P.cellsOf f4.type)) = some y4 := by
  obtain ⟨xs, n, _, rfl, hl, hlen, hf⟩ := DataW.trod_struct ht h
  match xs, hlen with
  | [y0, y1, y2, y3, y4], _ => exact ⟨y0, y1, y2, y3, y4, n, by simpa using hf 0 f0 rfl, by simpa using hf 1 f1 rfl, by simpa using hf 2 f2 rfl, by simpa using hf 3 f3 rfl, by simpa using hf 4 f4 rfl⟩

/-- A name, by value. -/
theorem open_eid {t tb tn ts : TypeId} {f0 f1 f2 f3 f4 : Field} {base : Nat} {v : Value} {d : DataW H} {p : List MemPlace} (hs : P.underlying t = some (.struct #[f0, f1, f2, f3, f4])) (hone : oneCellFields P #[f0, f1, f2, f3, f4] = true) (hC : P.cellsOf t = 5)
    (e0 : f0.type = tb) (e1 : f1.type = tn) (e2 : f2.type = tn) (e3 : f3.type = ts) (e4 : f4.type = ts) (u0 : P.underlying tb = some .bool) (u1 : P.underlying tn = some (.int .u64)) (u2 : P.underlying ts = some .string)
    (hval : Value.okWide P W .any base t v) (h : DataW.Trod enc P W 0 (fun _ => true) true t v d p) : ∃ x : Eid.Nm, v = x.val ∧ x.ok := by
  obtain ⟨cs, rfl, hsz⟩ := okWide_struct hs hval
  obtain ⟨c0, c1, c2, c3, c4, rfl⟩ := array5 (hsz.trans hC)
  obtain ⟨fuel, hf⟩ := h
  obtain ⟨y0, y1, y2, y3, y4, n, h0, h1, h2, h3, h4⟩ := trod_struct5 hs hf
  obtain ⟨o0, k0⟩ := hone_of hone 0 f0 rfl
  obtain ⟨o1, k1⟩ := hone_of hone 1 f1 rfl
  obtain ⟨o2, k2⟩ := hone_of hone 2 f2 rfl
  obtain ⟨o3, k3⟩ := hone_of hone 3 f3 rfl
  obtain ⟨o4, k4⟩ := hone_of hone 4 f4 rfl
  replace h0 : DataW.trod enc P W 0 (fun _ => true) true n f0.type [c0] = some y0 := by simpa [Value.cells, o0, k0] using h0
  replace h1 : DataW.trod enc P W 0 (fun _ => true) true n f1.type [c1] = some y1 := by simpa [Value.cells, o1, k1] using h1
  replace h2 : DataW.trod enc P W 0 (fun _ => true) true n f2.type [c2] = some y2 := by simpa [Value.cells, o2, k2] using h2
  replace h3 : DataW.trod enc P W 0 (fun _ => true) true n f3.type [c3] = some y3 := by simpa [Value.cells, o3, k3] using h3
  replace h4 : DataW.trod enc P W 0 (fun _ => true) true n f4.type [c4] = some y4 := by simpa [Value.cells, o4, k4] using h4
  subst e0
  subst e1
  subst e3
  rw [e2] at h2
  rw [e4] at h4
  obtain ⟨b, r0, _⟩ := DataW.trod_bool u0 h0
  obtain ⟨a, r1, _, w1⟩ := DataW.trod_int u1 h1
  obtain ⟨c, r2, _, w2⟩ := DataW.trod_int u1 h2
  obtain ⟨s, r3, _, w3⟩ := DataW.trod_string u2 h3
  obtain ⟨s', r4, _, w4⟩ := DataW.trod_string u2 h4
  simp at r0 r1 r2 r3 r4
  subst r0 r1 r2 r3 r4
  have b1 := bounds_u64 w1
  have b2 := bounds_u64 w2
  exact ⟨⟨b, a, c, s, s'⟩, rfl, b1.1, b1.2, b2.1, b2.2, w3, w4⟩
end
end Go.Proofs.YtbgcbcnidjlhnaaDoor.Fr
/- The opener of a number that came in. -/
namespace Go.Proofs.YtbgcbcnidjlhnaaDoor.Fr
open Go.ChangeShapes Go.WideShapes Go.ChangeAt Go.RowKit Go.Joins Go.Deep Wd

section
variable {H : Type} {enc : TypeId × Value → H} {P : Program} {W : World}

theorem array7 {α : Type} {cs : Array α} (h : cs.size = 7) : ∃ c0 c1 c2 c3 c4 c5 c6, cs = #[c0, c1, c2, c3, c4, c5, c6] := by
  obtain ⟨l⟩ := cs
  match l, h with
  | [c0, c1, c2, c3, c4, c5, c6], _ => exact ⟨c0, c1, c2, c3, c4, c5, c6, rfl⟩
/-- A number's seven cells, read. -/
theorem trod_id {t te tb tn ts : TypeId} {e0 e1 e2 f0 f1 f2 f3 f4 : Field} {fuel : Nat} {c0 c1 c2 c3 c4 c5 c6 : Value} {x : DataW H × List MemPlace} (ht : P.underlying t = some (.struct #[e0, e1, e2])) (hs : P.underlying te = some (.struct #[f0, f1, f2, f3, f4])) (hone : oneCellFields P #[f0, f1, f2, f3, f4] = true) (hC : P.cellsOf te = 5) (hn : P.cellsOf tn = 1)
    (o0 : e0.offset = 0) (o1 : e1.offset = 5) (o2 : e2.offset = 6) (y0 : e0.type = te) (y1 : e1.type = tn) (y2 : e2.type = tn)
    (z0 : f0.type = tb) (z1 : f1.type = tn) (z2 : f2.type = tn) (z3 : f3.type = ts) (z4 : f4.type = ts) (u0 : P.underlying tb = some .bool) (u1 : P.underlying tn = some (.int .u64)) (u2 : P.underlying ts = some .string)
    (h : DataW.trod enc P W 0 (fun _ => true) true fuel t [c0, c1, c2, c3, c4, c5, c6] = some x) : ∃ x : Eid.Id, [c0, c1, c2, c3, c4, c5, c6] = x.cells.toList ∧ x.ok := by
  obtain ⟨xs, n, _, rfl, hl, hlen, hf⟩ := DataW.trod_struct ht h
  match xs, hlen with
  | [a0, a1, a2], _ =>
    have g0 := hf 0 e0 rfl
    have g1 := hf 1 e1 rfl
    have g2 := hf 2 e2 rfl
    rw [y0, o0, hC] at g0
    rw [y1, o1, hn] at g1
    rw [y2, o2, hn] at g2
    simp only [List.drop, List.take, List.getElem_cons_zero, List.getElem_cons_succ] at g0 g1 g2
    obtain ⟨b0, b1, b2, b3, b4, m, h0, h1, h2, h3, h4⟩ := trod_struct5 hs g0
    obtain ⟨q0, k0⟩ := hone_of hone 0 f0 rfl
    obtain ⟨q1, k1⟩ := hone_of hone 1 f1 rfl
    obtain ⟨q2, k2⟩ := hone_of hone 2 f2 rfl
    obtain ⟨q3, k3⟩ := hone_of hone 3 f3 rfl
    obtain ⟨q4, k4⟩ := hone_of hone 4 f4 rfl
    replace h0 : DataW.trod enc P W 0 (fun _ => true) true m f0.type [c0] = some b0 := by simpa [q0, k0] using h0
    replace h1 : DataW.trod enc P W 0 (fun _ => true) true m f1.type [c1] = some b1 := by simpa [q1, k1] using h1
    replace h2 : DataW.trod enc P W 0 (fun _ => true) true m f2.type [c2] = some b2 := by simpa [q2, k2] using h2
    replace h3 : DataW.trod enc P W 0 (fun _ => true) true m f3.type [c3] = some b3 := by simpa [q3, k3] using h3
    replace h4 : DataW.trod enc P W 0 (fun _ => true) true m f4.type [c4] = some b4 := by simpa [q4, k4] using h4
    subst z0
    subst z1
    subst z3
    rw [z2] at h2
    rw [z4] at h4
    obtain ⟨b, r0, _⟩ := DataW.trod_bool u0 h0
    obtain ⟨a, r1, _, w1⟩ := DataW.trod_int u1 h1
    obtain ⟨c, r2, _, w2⟩ := DataW.trod_int u1 h2
    obtain ⟨s, r3, _, w3⟩ := DataW.trod_string u2 h3
    obtain ⟨s', r4, _, w4⟩ := DataW.trod_string u2 h4
    obtain ⟨d, r5, _, w5⟩ := DataW.trod_int u1 g1
    obtain ⟨e, r6, _, w6⟩ := DataW.trod_int u1 g2
    simp at r0 r1 r2 r3 r4 r5 r6
    subst r0 r1 r2 r3 r4 r5 r6
    have v1 := bounds_u64 w1
    have v2 := bounds_u64 w2
    have v5 := bounds_u64 w5
    have v6 := bounds_u64 w6
    exact ⟨⟨⟨b, a, c, s, s'⟩, d, e⟩, rfl, ⟨v1.1, v1.2, v2.1, v2.2, w3, w4⟩, v5.1, v5.2, v6.1, v6.2⟩
/-- A number, by value. -/
theorem open_id {t te tb tn ts : TypeId} {e0 e1 e2 f0 f1 f2 f3 f4 : Field} {base : Nat} {v : Value} {d : DataW H} {p : List MemPlace} (ht : P.underlying t = some (.struct #[e0, e1, e2])) (hct : P.cellsOf t = 7) (hs : P.underlying te = some (.struct #[f0, f1, f2, f3, f4])) (hone : oneCellFields P #[f0, f1, f2, f3, f4] = true) (hC : P.cellsOf te = 5) (hn : P.cellsOf tn = 1)
    (o0 : e0.offset = 0) (o1 : e1.offset = 5) (o2 : e2.offset = 6) (y0 : e0.type = te) (y1 : e1.type = tn) (y2 : e2.type = tn)
    (z0 : f0.type = tb) (z1 : f1.type = tn) (z2 : f2.type = tn) (z3 : f3.type = ts) (z4 : f4.type = ts) (u0 : P.underlying tb = some .bool) (u1 : P.underlying tn = some (.int .u64)) (u2 : P.underlying ts = some .string)
    (hval : Value.okWide P W .any base t v) (h : DataW.Trod enc P W 0 (fun _ => true) true t v d p) : ∃ x : Eid.Id, v = x.val ∧ x.ok := by
  obtain ⟨cs, rfl, hsz⟩ := okWide_struct ht hval
  obtain ⟨c0, c1, c2, c3, c4, c5, c6, rfl⟩ := array7 (hsz.trans hct)
  obtain ⟨fuel, hf⟩ := h
  obtain ⟨x, e, o⟩ := trod_id ht hs hone hC hn o0 o1 o2 y0 y1 y2 z0 z1 z2 z3 z4 u0 u1 u2 (by simpa [Value.cells] using hf)
  refine ⟨x, ?_, o⟩
  have e' : (#[c0, c1, c2, c3, c4, c5, c6] : Array Value) = x.cells := by rw [← Array.toList_inj]; exact e
  rw [e']
end
end Go.Proofs.YtbgcbcnidjlhnaaDoor.Fr
/- The opener of a first block that came in. -/
namespace Go.Proofs.YtbgcbcnidjlhnaaDoor.Fr
open Go.ChangeShapes Go.WideShapes Go.ChangeAt Go.RowKit Go.Joins Go.Deep Wd

section
variable {H : Type} {enc : TypeId × Value → H} {P : Program} {W : World}

theorem array20 {α : Type} {cs : Array α} (h : cs.size = 20) : ∃ c0 c1 c2 c3 c4 c5 c6 c7 c8 c9 c10 c11 c12 c13 c14 c15 c16 c17 c18 c19, cs = #[c0, c1, c2, c3, c4, c5, c6, c7, c8, c9, c10, c11, c12, c13, c14, c15, c16, c17, c18, c19] := by
  obtain ⟨l⟩ := cs
  match l, h with
  | [c0, c1, c2, c3, c4, c5, c6, c7, c8, c9, c10, c11, c12, c13, c14, c15, c16, c17, c18, c19], _ => exact ⟨c0, c1, c2, c3, c4, c5, c6, c7, c8, c9, c10, c11, c12, c13, c14, c15, c16, c17, c18, c19, rfl⟩
/-- A name's five cells, read. -/
theorem trod_eid {te tb tn ts : TypeId} {f0 f1 f2 f3 f4 : Field} {fuel : Nat} {c0 c1 c2 c3 c4 : Value} {x : DataW H × List MemPlace} (hs : P.underlying te = some (.struct #[f0, f1, f2, f3, f4])) (hone : oneCellFields P #[f0, f1, f2, f3, f4] = true)
    (z0 : f0.type = tb) (z1 : f1.type = tn) (z2 : f2.type = tn) (z3 : f3.type = ts) (z4 : f4.type = ts) (u0 : P.underlying tb = some .bool) (u1 : P.underlying tn = some (.int .u64)) (u2 : P.underlying ts = some .string)
    (h : DataW.trod enc P W 0 (fun _ => true) true fuel te [c0, c1, c2, c3, c4] = some x) : ∃ x : Eid.Nm, [c0, c1, c2, c3, c4] = x.cells.toList ∧ x.ok := by
  obtain ⟨b0, b1, b2, b3, b4, m, h0, h1, h2, h3, h4⟩ := trod_struct5 hs h
  obtain ⟨q0, k0⟩ := hone_of hone 0 f0 rfl
  obtain ⟨q1, k1⟩ := hone_of hone 1 f1 rfl
  obtain ⟨q2, k2⟩ := hone_of hone 2 f2 rfl
  obtain ⟨q3, k3⟩ := hone_of hone 3 f3 rfl
  obtain ⟨q4, k4⟩ := hone_of hone 4 f4 rfl
  replace h0 : DataW.trod enc P W 0 (fun _ => true) true m f0.type [c0] = some b0 := by simpa [q0, k0] using h0
  replace h1 : DataW.trod enc P W 0 (fun _ => true) true m f1.type [c1] = some b1 := by simpa [q1, k1] using h1
  replace h2 : DataW.trod enc P W 0 (fun _ => true) true m f2.type [c2] = some b2 := by simpa [q2, k2] using h2
  replace h3 : DataW.trod enc P W 0 (fun _ => true) true m f3.type [c3] = some b3 := by simpa [q3, k3] using h3
  replace h4 : DataW.trod enc P W 0 (fun _ => true) true m f4.type [c4] = some b4 := by simpa [q4, k4] using h4
  subst z0
  subst z1
  subst z3
  rw [z2] at h2
  rw [z4] at h4
  obtain ⟨b, r0, _⟩ := DataW.trod_bool u0 h0
  obtain ⟨a, r1, _, w1⟩ := DataW.trod_int u1 h1
  obtain ⟨c, r2, _, w2⟩ := DataW.trod_int u1 h2
  obtain ⟨s, r3, _, w3⟩ := DataW.trod_string u2 h3
  obtain ⟨s', r4, _, w4⟩ := DataW.trod_string u2 h4
  simp at r0 r1 r2 r3 r4
  subst r0 r1 r2 r3 r4
  have v1 := bounds_u64 w1
  have v2 := bounds_u64 w2
  exact ⟨⟨b, a, c, s, s'⟩, rfl, v1.1, v1.2, v2.1, v2.2, w3, w4⟩
/-- A first block's twenty cells, read. -/
theorem trod_prm {t te td tb tn ti ts : TypeId} {g0 g1 g2 g3 g4 g5 e0 e1 e2 f0 f1 f2 f3 f4 : Field} {fuel : Nat} {c0 c1 c2 c3 c4 c5 c6 c7 c8 c9 c10 c11 c12 c13 c14 c15 c16 c17 c18 c19 : Value} {x : DataW H × List MemPlace} (ht : P.underlying t = some (.struct #[g0, g1, g2, g3, g4, g5])) (hd : P.underlying td = some (.struct #[e0, e1, e2])) (hs : P.underlying te = some (.struct #[f0, f1, f2, f3, f4])) (hone : oneCellFields P #[f0, f1, f2, f3, f4] = true) (hD : P.cellsOf td = 7) (hC : P.cellsOf te = 5) (hn : P.cellsOf tn = 1) (hi : P.cellsOf ti = 1)
    (p0 : g0.offset = 0) (p1 : g1.offset = 1) (p2 : g2.offset = 2) (p3 : g3.offset = 7) (p4 : g4.offset = 12) (p5 : g5.offset = 19) (s0 : g0.type = tn) (s1 : g1.type = ti) (s2 : g2.type = te) (s3 : g3.type = te) (s4 : g4.type = td) (s5 : g5.type = tn)
    (o0 : e0.offset = 0) (o1 : e1.offset = 5) (o2 : e2.offset = 6) (y0 : e0.type = te) (y1 : e1.type = tn) (y2 : e2.type = tn)
    (z0 : f0.type = tb) (z1 : f1.type = tn) (z2 : f2.type = tn) (z3 : f3.type = ts) (z4 : f4.type = ts) (u0 : P.underlying tb = some .bool) (u1 : P.underlying tn = some (.int .u64)) (u2 : P.underlying ts = some .string) (u3 : P.underlying ti = some (.int .i64))
    (h : DataW.trod enc P W 0 (fun _ => true) true fuel t [c0, c1, c2, c3, c4, c5, c6, c7, c8, c9, c10, c11, c12, c13, c14, c15, c16, c17, c18, c19] = some x) : ∃ x : Prim.Prm, [c0, c1, c2, c3, c4, c5, c6, c7, c8, c9, c10, c11, c12, c13, c14, c15, c16, c17, c18, c19] = x.cells.toList ∧ x.ok := by
  obtain ⟨xs, n, _, rfl, hl, hlen, hf⟩ := DataW.trod_struct ht h
  match xs, hlen with
  | [a0, a1, a2, a3, a4, a5], _ =>
    have h0 := hf 0 g0 rfl
    have h1 := hf 1 g1 rfl
    have h2 := hf 2 g2 rfl
    have h3 := hf 3 g3 rfl
    have h4 := hf 4 g4 rfl
    have h5 := hf 5 g5 rfl
    rw [s0, p0, hn] at h0
    rw [s1, p1, hi] at h1
    rw [s2, p2, hC] at h2
    rw [s3, p3, hC] at h3
    rw [s4, p4, hD] at h4
    rw [s5, p5, hn] at h5
    simp only [List.drop, List.take, List.getElem_cons_zero, List.getElem_cons_succ] at h0 h1 h2 h3 h4 h5
    obtain ⟨a, r0, _, w0⟩ := DataW.trod_int u1 h0
    obtain ⟨b, r1, _, w1⟩ := DataW.trod_int u3 h1
    obtain ⟨N, r2, m2⟩ := trod_eid hs hone z0 z1 z2 z3 z4 u0 u1 u2 h2
    obtain ⟨R, r3, m3⟩ := trod_eid hs hone z0 z1 z2 z3 z4 u0 u1 u2 h3
    obtain ⟨I, r4, m4⟩ := trod_id hd hs hone hC hn o0 o1 o2 y0 y1 y2 z0 z1 z2 z3 z4 u0 u1 u2 h4
    obtain ⟨c, r5, _, w5⟩ := DataW.trod_int u1 h5
    simp at r0 r1 r2 r3 r4 r5
    obtain ⟨r20, r21, r22, r23, r24⟩ := r2
    obtain ⟨r30, r31, r32, r33, r34⟩ := r3
    obtain ⟨r40, r41, r42, r43, r44, r45, r46⟩ := r4
    subst r0 r1 r20 r21 r22 r23 r24 r30 r31 r32 r33 r34 r40 r41 r42 r43 r44 r45 r46 r5
    have v0 := bounds_u64 w0
    have v1 := bounds_i64 w1
    have v5 := bounds_u64 w5
    exact ⟨⟨a, b, N, R, I, c⟩, rfl, v0.1, v0.2, v1.1, v1.2, m2, m3, m4, v5.1, v5.2⟩
/-- A first block, by value. -/
theorem open_prm {t te td tb tn ti ts : TypeId} {g0 g1 g2 g3 g4 g5 e0 e1 e2 f0 f1 f2 f3 f4 : Field} {base : Nat} {v : Value} {d : DataW H} {p : List MemPlace} (ht : P.underlying t = some (.struct #[g0, g1, g2, g3, g4, g5])) (hct : P.cellsOf t = 20) (hd : P.underlying td = some (.struct #[e0, e1, e2])) (hs : P.underlying te = some (.struct #[f0, f1, f2, f3, f4])) (hone : oneCellFields P #[f0, f1, f2, f3, f4] = true) (hD : P.cellsOf td = 7) (hC : P.cellsOf te = 5) (hn : P.cellsOf tn = 1) (hi : P.cellsOf ti = 1)
    (p0 : g0.offset = 0) (p1 : g1.offset = 1) (p2 : g2.offset = 2) (p3 : g3.offset = 7) (p4 : g4.offset = 12) (p5 : g5.offset = 19) (s0 : g0.type = tn) (s1 : g1.type = ti) (s2 : g2.type = te) (s3 : g3.type = te) (s4 : g4.type = td) (s5 : g5.type = tn)
    (o0 : e0.offset = 0) (o1 : e1.offset = 5) (o2 : e2.offset = 6) (y0 : e0.type = te) (y1 : e1.type = tn) (y2 : e2.type = tn)
    (z0 : f0.type = tb) (z1 : f1.type = tn) (z2 : f2.type = tn) (z3 : f3.type = ts) (z4 : f4.type = ts) (u0 : P.underlying tb = some .bool) (u1 : P.underlying tn = some (.int .u64)) (u2 : P.underlying ts = some .string) (u3 : P.underlying ti = some (.int .i64))
    (hval : Value.okWide P W .any base t v) (h : DataW.Trod enc P W 0 (fun _ => true) true t v d p) : ∃ x : Prim.Prm, v = x.val ∧ x.ok := by
  obtain ⟨cs, rfl, hsz⟩ := okWide_struct ht hval
  obtain ⟨c0, c1, c2, c3, c4, c5, c6, c7, c8, c9, c10, c11, c12, c13, c14, c15, c16, c17, c18, c19, rfl⟩ := array20 (hsz.trans hct)
  obtain ⟨fuel, hf⟩ := h
  obtain ⟨x, e, o⟩ := trod_prm ht hd hs hone hD hC hn hi p0 p1 p2 p3 p4 p5 s0 s1 s2 s3 s4 s5 o0 o1 o2 y0 y1 y2 z0 z1 z2 z3 z4 u0 u1 u2 u3 (by simpa [Value.cells] using hf)
  refine ⟨x, ?_, o⟩
  have e' : (#[c0, c1, c2, c3, c4, c5, c6, c7, c8, c9, c10, c11, c12, c13, c14, c15, c16, c17, c18, c19] : Array Value) = x.cells := by rw [← Array.toList_inj]; exact e
  rw [e']
end
end Go.Proofs.YtbgcbcnidjlhnaaDoor.Fr
