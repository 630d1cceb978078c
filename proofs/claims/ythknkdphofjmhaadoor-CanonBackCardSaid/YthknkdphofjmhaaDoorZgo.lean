/- Texts of my own, laid together: FrameEid, FrameItem. -/
import Derived.Test.YthknkdphofjmhaaDoorZg1
import Derived.Test.YthknkdphofjmhaaDoorZg2
import Derived.ChangeMaps
import Derived.Test.YthknkdphofjmhaaDoorZg4
import Derived.Deep.Slices
/- The opener of a name that came in. -/
namespace Go.Proofs.YthknkdphofjmhaaDoor.Fr
open Go.ChangeShapes Go.WideShapes Go.ChangeAt Go.RowKit Go.Joins Go.Deep Wd

section
variable {H : Type} {enc : TypeId × Value → H} {P : Program} {W : World}

theorem array5 {α : Type} {cs : Array α} (h : cs.size = 5) : ∃ c0 c1 c2 c3 c4, cs = #[c0, c1, c2, c3, c4] := by
  obtain ⟨l⟩ := cs
  match l, h with
  | [c0, c1, c2, c3, c4], _ => exact ⟨c0, c1, c2, c3, c4, rfl⟩
theorem trod_struct5 {w : World} {base : Nat} {spare : Nat → Bool} {held : Bool} {t : TypeId} {f0 f1 f2 f3 f4 : Field} {fuel : Nat} {cs : List Value} {x : DataW H × List MemPlace} (ht : P.underlying t = some (.struct #[f0, f1, f2, f3, f4])) (h : DataW.trod enc P w base spare held fuel t cs = some x) :
    ∃ y0 y1 y2 y3 y4 n, DataW.trod enc P w base spare held n f0.type ((cs.drop f0.offset).take (P.cellsOf f0.type)) = some y0 ∧
      DataW.trod enc P w base spare held n f1.type ((cs.drop f1.offset).take (P.cellsOf f1.type)) = some y1 ∧ DataW.trod enc P w base spare held n f2.type ((cs.drop f2.offset).take (P.cellsOf f2.type)) = some y2 ∧
      DataW.trod enc P w base spare held n f3.type ((cs.drop f3.offset).take (P.cellsOf f3.type)) = some y3 ∧ DataW.trod enc P w base spare held n f4.type ((cs.drop f4.offset).take (P.cellsOf f4.type)) = some y4 := by
  obtain ⟨xs, n, _, rfl, hl, hlen, hf⟩ := DataW.trod_struct ht h
  match xs, hlen with
  | [y0, y1, y2, y3, y4], _ => exact ⟨y0, y1, y2, y3, y4, n, by simpa using hf 0 f0 rfl, by simpa using hf 1 f1 rfl, by simpa using hf 2 f2 rfl, by simpa using hf 3 f3 rfl, by simpa using hf 4 f4 rfl⟩

/-- A name, by value. -/
theorem open_eid {t tb tn ts : TypeId} {f0 f1 f2 f3 f4 : Field} {base : Nat} {v : Value} {d : DataW H} {p : List MemPlace} (hs : P.underlying t = some (.struct #[f0, f1, f2, f3, f4])) (hone : oneCellFields P #[f0, f1, f2, f3, f4] = true) (hC : P.cellsOf t = 5)
    (e0 : f0.type = tb) (e1 : f1.type = tn) (e2 : f2.type = tn) (e3 : f3.type = ts) (e4 : f4.type = ts) (u0 : P.underlying tb = some .bool) (u1 : P.underlying tn = some (.int .u64)) (u2 : P.underlying ts = some .string)
    (hval : Value.okWide P W .any base t v) (h : DataW.Trod enc P W 0 (fun _ => true) true t v d p) : ∃ x : Eid.Nm, v = x.val ∧ x.ok := by
  obtain ⟨cs, rfl, hsz⟩ := okWide_struct hs hval
  obtain ⟨c0, c1, c2, c3, c4, rfl⟩ := array5 (hsz.trans hC)
  obtain ⟨fuel, hf⟩ := h
  obtain ⟨y0, y1, y2, y3, y4, n, h0, h1, h2, h3, h4⟩ := trod_struct5 hs hf
  obtain ⟨o0, k0⟩ := hone_of hone 0 f0 rfl
  obtain ⟨o1, k1⟩ := hone_of hone 1 f1 rfl
  obtain ⟨o2, k2⟩ := hone_of hone 2 f2 rfl
  obtain ⟨o3, k3⟩ := hone_of hone 3 f3 rfl
  obtain ⟨o4, k4⟩ := hone_of hone 4 f4 rfl
  replace h0 : DataW.trod enc P W 0 (fun _ => true) true n f0.type [c0] = some y0 := by simpa [Value.cells, o0, k0] using h0
  replace h1 : DataW.trod enc P W 0 (fun _ => true) true n f1.type [c1] = some y1 := by simpa [Value.cells, o1, k1] using h1
  replace h2 : DataW.trod enc P W 0 (fun _ => true) true n f2.type [c2] = some y2 := by simpa [Value.cells, o2, k2] using h2
  replace h3 : DataW.trod enc P W 0 (fun _ => true) true n f3.type [c3] = some y3 := by simpa [Value.cells, o3, k3] using h3
  replace h4 : DataW.trod enc P W 0 (fun _ => true) true n f4.type [c4] = some y4 := by simpa [Value.cells, o4, k4] using h4
  subst e0
  subst e1
  subst e3
  rw [e2] at h2
  rw [e4] at h4
  obtain ⟨b, r0, _⟩ := DataW.trod_bool u0 h0
  obtain ⟨a, r1, _, w1⟩ := DataW.trod_int u1 h1
  obtain ⟨c, r2, _, w2⟩ := DataW.trod_int u1 h2
  obtain ⟨s, r3, _, w3⟩ := DataW.trod_string u2 h3
  obtain ⟨s', r4, _, w4⟩ := DataW.trod_string u2 h4
  simp at r0 r1 r2 r3 r4
  subst r0 r1 r2 r3 r4
  have b1 := bounds_u64 w1
  have b2 := bounds_u64 w2
  exact ⟨⟨b, a, c, s, s'⟩, rfl, b1.1, b1.2, b2.1, b2.2, w3, w4⟩
end
end Go.Proofs.YthknkdphofjmhaaDoor.Fr
/- An opener of an item that came in: what a reading of it tells a walk. No program is named here. -/
namespace Go.Proofs.YthknkdphofjmhaaDoor.Fr
open Go.ChangeShapes Go.WideShapes Go.ChangeAt Go.RowKit Go.Joins Go.Deep Wd Cb

section
variable {H : Type} {enc : TypeId × Value → H} {P : Program} {W : World}

/-- A slice of bytes, by its cell. -/
theorem open_seg {t e : TypeId} {fuel : Nat} {cs : List Value} {x : DataW H × List MemPlace} (ht : P.underlying t = some (.slice e)) (he : P.underlying e = some (.int .u8)) (hc : P.cellsOf e = 1)
    (h : DataW.trod enc P W 0 (fun _ => true) true fuel t cs = some x) : ∃ A c xs, cs = [.slice A (List.length xs) c] ∧ xs.length ≤ c ∧ c ≤ maxLen ∧ Lst W W.heap.size A (u8s xs) ∧ St.bts xs := by
  rcases open_ints ht he hc h with ⟨hcs, _⟩ | ⟨x, len, cap, zs, hcs, _, hl, hm, hz, _, hcell, hwz⟩
  · exact ⟨none, 0, [], hcs, Nat.le_refl _, by simp [maxLen], .inl rfl, fun x hx => by simp at hx⟩
  · subst hcs
    simp at hz
    have hlen : (zs.take len).length = len := by simp; omega
    refine ⟨some x, cap, zs.take len, by rw [hlen], by omega, hm, ?_, fun y hy => bounds_u8 (hwz y (List.mem_of_mem_take hy))⟩
    rcases Nat.eq_zero_or_pos len with h0 | h0
    · subst h0; exact .inl (by simp)
    · have hc0 := hcell 0 (by omega)
      obtain ⟨b, o, spot⟩ := x
      have hspot : spot = none := by simpa [Addr.add] using World.cell?_spot hc0
      subst hspot
      refine .inr ⟨b, o, rfl, ?_, fun j hj => ?_⟩
      · have := lt_of_cell hc0
        simpa [Addr.add] using this
      · have hj' : j < len := by simp at hj; omega
        have hcj := hcell j (by omega)
        have hplain : (⟨b, o, none⟩ : Addr).add j = ⟨b, o + j, none⟩ := by unfold Addr.add; split <;> simp_all
        rw [hplain] at hcj
        rw [hcj]
        simp [u8s, List.getD, List.getElem?_take, hj', List.getElem?_eq_getElem (show j < zs.length by omega)]

theorem plain_add (b o j : Nat) : (⟨b, o, none⟩ : Addr).add j = ⟨b, o + j, none⟩ := by unfold Addr.add; split <;> simp_all
/-- Pieces of four cells each, one behind the other. -/
theorem pieces {lo hi : Nat} {a : Addr} (hlo : lo ≤ a.block) (hhi : a.block < hi) (hsp : a.spot = none) : ∀ (len : Nat) (CS : Nat → List Value) (X : Nat → Itm),
    (∀ i, i < len → Rep W lo hi (X i) (CS i) ∧ ∀ j, j < 4 → W.cell? (a.add (i * 4 + j)) = (CS i)[j]?) → ∃ vs, Seg W lo hi (some a) vs ∧ Reps W lo hi ((List.range len).map X) vs
  | 0, _, _, _ => ⟨[], .nil, Reps.none_⟩
  | len + 1, CS, X, h => by
    obtain ⟨vs, hs, hr⟩ := pieces hlo hhi hsp len CS X (fun i hi => h i (by omega))
    obtain ⟨h1, h2⟩ := h len (by omega)
    have hl := h1.length
    have hvl : vs.length = len * 4 := by rw [hr.length]; simp
    obtain ⟨b, o, sp⟩ := a
    simp only at hsp
    subst hsp
    refine ⟨vs ++ CS len, .inr ⟨b, o, rfl, hlo, hhi, fun j hj => ?_⟩, ?_⟩
    · rcases Nat.lt_or_ge j vs.length with hlt | hge
      · rw [List.getElem?_append_left hlt]
        rcases hs with h0 | ⟨b', o', e, _, _, hc⟩
        · simp [h0] at hlt
        · simp only [Option.some.injEq, Addr.mk.injEq, and_true] at e
          obtain ⟨rfl, rfl⟩ := e
          exact hc j hlt
      · rw [List.getElem?_append_right hge]
        rw [List.length_append, hl] at hj
        have h3 := h2 (j - vs.length) (by omega)
        rw [plain_add, show len * 4 + (j - vs.length) = j from by omega] at h3
        exact h3
    · rw [List.range_succ, List.map_append]
      exact hr.append (Reps.one h1)

theorem open_rep {tI tL tB t8 t0 t1 : TypeId} {f0 f1 f2 f3 : Field} (hI : P.underlying tI = some (.struct #[f0, f1, f2, f3])) (hC : P.cellsOf tI = 4)
    (o0 : f0.offset = 0) (o1 : f1.offset = 1) (o2 : f2.offset = 2) (o3 : f3.offset = 3) (e0 : f0.type = t0) (e1 : f1.type = t1) (e2 : f2.type = tB) (e3 : f3.type = tL)
    (c0 : P.cellsOf t0 = 1) (c1 : P.cellsOf t1 = 1) (c2 : P.cellsOf tB = 1) (c3 : P.cellsOf tL = 1)
    (u0 : P.underlying t0 = some (.int .i64)) (u1 : P.underlying t1 = some (.int .u64)) (uB : P.underlying tB = some (.slice t8)) (u8 : P.underlying t8 = some (.int .u8)) (c8 : P.cellsOf t8 = 1) (uL : P.underlying tL = some (.slice tI)) :
    ∀ (N : Nat) (d : DataW H), SizeOf.sizeOf d ≤ N → ∀ (fuel : Nat) (cs : List Value) (p : List MemPlace), DataW.trod enc P W 0 (fun _ => true) true fuel tI cs = some (d, p) → ∃ X : Itm, Rep W 0 W.heap.size X cs := by
  subst e0 e1 e2 e3
  intro N
  induction N with
  | zero => intro d hd; cases d <;> simp at hd
  | succ N ih =>
    intro d hd fuel cs p h
    obtain ⟨y0, y1, y2, y3, n, hx, hl, h0, h1, h2, h3⟩ := trod_struct4 hI h
    rw [hC] at hl
    simp only [o0, o1, o2, o3, c0, c1, c2, c3] at h0 h1 h2 h3
    obtain ⟨v0, v1, v2, v3, rfl⟩ : ∃ a b c d, cs = [a, b, c, d] := by
      match cs, hl with
      | [a, b, c, d], _ => exact ⟨a, b, c, d, rfl⟩
    simp at h0 h1 h2 h3
    obtain ⟨k, r0, _, w0⟩ := DataW.trod_int u0 h0
    obtain ⟨m, r1, _, w1⟩ := DataW.trod_int u1 h1
    obtain ⟨A, c, xs, r2, l2, m2, s2, b2⟩ := open_seg uB u8 c8 h2
    simp at r0 r1 r2
    subst r0 r1 r2
    have hd3 : SizeOf.sizeOf y3.1 ≤ N := by
      simp only [Prod.mk.injEq] at hx
      rw [hx.1] at hd
      simp at hd
      omega
    rcases open_slice uL h3 with ⟨hcs, _⟩ | ⟨a, len, cap, M, n', D, Pl, hcs, _, hlc, hm, hM, hy, hall⟩
    · simp at hcs
      subst hcs
      exact ⟨.mk k m xs [], Rep.mk (bounds_i64 w0) (bounds_u64 w1) b2 l2 m2 (Seg.of_lst s2) (Nat.le_refl _) (by simp [maxLen]) ItemsV.nil⟩
    · simp at hcs
      subst hcs
      simp at hM
      have hcM : M = cap := hM
      clear hM
      subst M
      have hD : ∀ i, i < len → SizeOf.sizeOf (D i) ≤ N := by
        intro i hi
        have hmem : D i ∈ (List.range len).map D := List.mem_map.2 ⟨i, List.mem_range.2 hi, rfl⟩
        have := List.sizeOf_lt_of_mem hmem
        rw [hy] at hd3
        simp at hd3
        omega
      have hex : ∀ i, i < len → ∃ q : Itm × List Value, Rep W 0 W.heap.size q.1 q.2 ∧ ∀ j, j < 4 → W.cell? (a.add (i * 4 + j)) = q.2[j]? := by
        intro i hi
        obtain ⟨cs', g1, g2⟩ := hall i (by omega)
        rw [hC] at g1
        obtain ⟨X, hX⟩ := ih (D i) (hD i hi) n' cs' (Pl i) g2
        obtain ⟨_, q2, q3⟩ := World.cells?_some g1
        refine ⟨(X, cs'), hX, fun j hj => ?_⟩
        rw [← q3 j hj, add_add]
      haveI : Inhabited (Itm × List Value) := ⟨(.mk 0 0 [] [], [])⟩
      obtain ⟨q, hq⟩ := choose_lt (α := Itm × List Value) (p := fun i q => Rep W 0 W.heap.size q.1 q.2 ∧ ∀ j, j < 4 → W.cell? (a.add (i * 4 + j)) = q.2[j]?) hex
      rcases Nat.eq_zero_or_pos len with hz | hz
      · subst hz
        exact ⟨.mk k m xs [], Rep.mk (l := []) (bounds_i64 w0) (bounds_u64 w1) b2 l2 m2 (Seg.of_lst s2) (Nat.zero_le _) hm ItemsV.nil⟩
      · obtain ⟨_, q3⟩ := hq 0 hz
        have hl0 := (hq 0 hz).1.length
        have hs0 := q3 0 (by omega)
        rw [List.getElem?_eq_getElem (by omega)] at hs0
        have hsp : a.spot = none := by simpa [Addr.add] using World.cell?_spot hs0
        have hlt : a.block < W.heap.size := by have := lt_of_cell hs0; rwa [block_add] at this
        obtain ⟨vs, hs, hr⟩ := pieces (W := W) (lo := 0) (hi := W.heap.size) (Nat.zero_le _) hlt hsp len (fun i => (q i).2) (fun i => (q i).1) hq
        have hll : ((List.range len).map fun i => (q i).1).length = len := by simp
        have := Rep.mk (l := (List.range len).map fun i => (q i).1) (c' := cap) (bounds_i64 w0) (bounds_u64 w1) b2 l2 m2 (Seg.of_lst s2) (by rw [hll]; exact hlc) hm ⟨vs, hs, hr⟩
        rw [hll] at this
        exact ⟨_, this⟩

/-- An item that came in. -/
theorem open_item {tI tL tB t8 t0 t1 : TypeId} {f0 f1 f2 f3 : Field} {base : Nat} {v : Value} {d : DataW H} {p : List MemPlace} (hI : P.underlying tI = some (.struct #[f0, f1, f2, f3])) (hC : P.cellsOf tI = 4)
    (o0 : f0.offset = 0) (o1 : f1.offset = 1) (o2 : f2.offset = 2) (o3 : f3.offset = 3) (e0 : f0.type = t0) (e1 : f1.type = t1) (e2 : f2.type = tB) (e3 : f3.type = tL)
    (c0 : P.cellsOf t0 = 1) (c1 : P.cellsOf t1 = 1) (c2 : P.cellsOf tB = 1) (c3 : P.cellsOf tL = 1)
    (u0 : P.underlying t0 = some (.int .i64)) (u1 : P.underlying t1 = some (.int .u64)) (uB : P.underlying tB = some (.slice t8)) (u8 : P.underlying t8 = some (.int .u8)) (c8 : P.cellsOf t8 = 1) (uL : P.underlying tL = some (.slice tI))
    (hval : Value.okWide P W .any base tI v) (h : DataW.Trod enc P W 0 (fun _ => true) true tI v d p) : ∃ X : Itm, ItemV W 0 W.heap.size X v := by
  obtain ⟨a, b, c, e, y0, y1, y2, y3, n, rfl, _, _, h0, h1, h2, h3⟩ := open_agg4 hI (by
    unfold oneCellFields
    simp [o0, o1, o2, o3, e0, e1, e2, e3, c0, c1, c2, c3, List.range, List.range.loop]) hC hval h
  obtain ⟨fuel, hf⟩ := h
  obtain ⟨k, r0, _, _⟩ := DataW.trod_int (by rw [e0]; exact u0) h0
  obtain ⟨m, r1, _, _⟩ := DataW.trod_int (by rw [e1]; exact u1) h1
  obtain ⟨A, l, xs, r2, _⟩ := open_seg (by rw [e2]; exact uB) u8 c8 h2
  obtain ⟨A', l', c', r3⟩ : ∃ A' l' c', [e] = [Value.slice A' l' c'] := by
    rcases open_slice (by rw [e3]; exact uL) h3 with ⟨hcs, _⟩ | ⟨a, len, cap, M, n', D, Pl, hcs, _⟩
    · exact ⟨_, _, _, hcs⟩
    · exact ⟨_, _, _, hcs⟩
  simp at r0 r1 r2 r3
  subst r0 r1 r2 r3
  obtain ⟨X, hX⟩ := open_rep hI hC o0 o1 o2 o3 e0 e1 e2 e3 c0 c1 c2 c3 u0 u1 uB u8 c8 uL (SizeOf.sizeOf d) d (Nat.le_refl _) fuel _ p hf
  refine ⟨X, _, ?_, hX⟩
  simp [Value.cells]
end
end Go.Proofs.YthknkdphofjmhaaDoor.Fr
