/- Texts of my own, laid together: FrameItem, FrameItems. -/
import Derived.Test.YtbgcbcnidjlhnaaDoorZs0
import Derived.Test.YtbgcbcnidjlhnaaDoorZs4
import Derived.Deep.Slices
/- An opener of an item that came in: what a reading of it tells a walk. No program is named here. -/
namespace Go.Proofs.YtbgcbcnidjlhnaaDoor.Fr
open Go.ChangeShapes Go.WideShapes Go.ChangeAt Go.RowKit Go.Joins Go.Deep Wd Cb

section
variable {H : Type} {enc : TypeId × Value → H} {P : Program} {W : World}

/-- A slice of bytes, by its cell. -/
theorem open_seg {t e : TypeId} {fuel : Nat} {cs : List Value} {x : DataW H × List MemPlace} (ht : P.underlying t = some (.slice e)) (he : P.underlying e = some (.int .u8)) (hc : P.cellsOf e = 1)
    (h : DataW.trod enc P W 0 (fun _ => true) true fuel t cs = some x) : ∃ A c xs, cs = [.slice A (List.length xs) c] ∧ xs.length ≤ c ∧ c ≤ maxLen ∧ Lst W W.heap.size A (u8s xs) ∧ St.bts xs := by
  rcases open_ints ht he hc h with ⟨hcs, _⟩ | ⟨x, len, cap, zs, hcs, _, hl, hm, hz, _, hcell, hwz⟩
  · exact ⟨none, 0, [], hcs, Nat.le_refl _, by simp [maxLen], .inl rfl, fun x hx => by simp at hx⟩
  · subst hcs
    simp at hz
    have hlen : (zs.take len).length = len := by simp; omega
    refine ⟨some x, cap, zs.take len, by rw [hlen], by omega, hm, ?_, fun y hy => bounds_u8 (hwz y (List.mem_of_mem_take hy))⟩
    rcases Nat.eq_zero_or_pos len with h0 | h0
    · subst h0; exact .inl (by simp)
    · have hc0 := hcell 0 (by omega)
      obtain ⟨b, o, spot⟩ := x
      have hspot : spot = none := by simpa [Addr.add] using World.cell?_spot hc0
      subst hspot
      refine .inr ⟨b, o, rfl, ?_, fun j hj => ?_⟩
      · have := lt_of_cell hc0
        simpa [Addr.add] using this
      · have hj' : j < len := by simp at hj; omega
        have hcj := hcell j (by omega)
        have hplain : (⟨b, o, none⟩ : Addr).add j = ⟨b, o + j, none⟩ := by unfold Addr.add; split <;> simp_all
        rw [hplain] at hcj
        rw [hcj]
        simp [u8s, List.getD, List.getElem?_take, hj', List.getElem?_eq_getElem (show j < zs.length by omega)]

theorem plain_add (b o j : Nat) : (⟨b, o, none⟩ : Addr).add j = ⟨b, o + j, none⟩ := by unfold Addr.add; split <;> simp_all
/-- Pieces of four cells each, one behind the other. -/
theorem pieces {lo hi : Nat} {a : Addr} (hlo : lo ≤ a.block) (hhi : a.block < hi) (hsp : a.spot = none) : ∀ (len : Nat) (CS : Nat → List Value) (X : Nat → Itm),
    (∀ i, i < len → Rep W lo hi (X i) (CS i) ∧ ∀ j, j < 4 → W.cell? (a.add (i * 4 + j)) = (CS i)[j]?) → ∃ vs, Seg W lo hi (some a) vs ∧ Reps W lo hi ((List.range len).map X) vs
  | 0, _, _, _ => ⟨[], .nil, Reps.none_⟩
  | len + 1, CS, X, h => by
    obtain ⟨vs, hs, hr⟩ := pieces hlo hhi hsp len CS X (fun i hi => h i (by omega))
    obtain ⟨h1, h2⟩ := h len (by omega)
    have hl := h1.length
    have hvl : vs.length = len * 4 := by rw [hr.length]; simp
    obtain ⟨b, o, sp⟩ := a
    simp only at hsp
    subst hsp
    refine ⟨vs ++ CS len, .inr ⟨b, o, rfl, hlo, hhi, fun j hj => ?_⟩, ?_⟩
    · rcases Nat.lt_or_ge j vs.length with hlt | hge
      · rw [List.getElem?_append_left hlt]
        rcases hs with h0 | ⟨b', o', e, _, _, hc⟩
        · simp [h0] at hlt
        · simp only [Option.some.injEq, Addr.mk.injEq, and_true] at e
          obtain ⟨rfl, rfl⟩ := e
          exact hc j hlt
      · rw [List.getElem?_append_right hge]
        rw [List.length_append, hl] at hj
        have h3 := h2 (j - vs.length) (by omega)
        rw [plain_add, show len * 4 + (j - vs.length) = j from by omega] at h3
        exact h3
    · rw [List.range_succ, List.map_append]
      exact hr.append (Reps.one h1)

theorem open_rep {tI tL tB t8 t0 t1 : TypeId} {f0 f1 f2 f3 : Field} (hI : P.underlying tI = some (.struct #[f0, f1, f2, f3])) (hC : P.cellsOf tI = 4)
    (o0 : f0.offset = 0) (o1 : f1.offset = 1) (o2 : f2.offset = 2) (o3 : f3.offset = 3) (e0 : f0.type = t0) (e1 : f1.type = t1) (e2 : f2.type = tB) (e3 : f3.type = tL)
    (c0 : P.cellsOf t0 = 1) (c1 : P.cellsOf t1 = 1) (c2 : P.cellsOf tB = 1) (c3 : P.cellsOf tL = 1)
    (u0 : P.underlying t0 = some (.int .i64)) (u1 : P.underlying t1 = some (.int .u64)) (uB : P.underlying tB = some (.slice t8)) (u8 : P.underlying t8 = some (.int .u8)) (c8 : P.cellsOf t8 = 1) (uL : P.underlying tL = some (.slice tI)) :
    ∀ (N : Nat) (d : DataW H), SizeOf.sizeOf d ≤ N → ∀ (fuel : Nat) (cs : List Value) (p : List MemPlace), DataW.trod enc P W 0 (fun _ => true) true fuel tI cs = some (d, p) → ∃ X : Itm, Rep W 0 W.heap.size X cs := by
  subst e0 e1 e2 e3
  intro N
  induction N with
  | zero => intro d hd; cases d <;> simp at hd
  | succ N ih =>
    intro d hd fuel cs p h
    obtain ⟨y0, y1, y2, y3, n, hx, hl, h0, h1, h2, h3⟩ := trod_struct4 hI h
    rw [hC] at hl
    simp only [o0, o1, o2, o3, c0, c1, c2, c3] at h0 h1 h2 h3
    obtain ⟨v0, v1, v2, v3, rfl⟩ : ∃ a b c d, cs = [a, b, c, d] := by
      match cs, hl with
      | [a, b, c, d], _ => exact ⟨a, b, c, d, rfl⟩
    simp at h0 h1 h2 h3
    obtain ⟨k, r0, _, w0⟩ := DataW.trod_int u0 h0
    obtain ⟨m, r1, _, w1⟩ := DataW.trod_int u1 h1
    obtain ⟨A, c, xs, r2, l2, m2, s2, b2⟩ := open_seg uB u8 c8 h2
    simp at r0 r1 r2
    subst r0 r1 r2
    have hd3 : SizeOf.sizeOf y3.1 ≤ N := by
      simp only [Prod.mk.injEq] at hx
      rw [hx.1] at hd
      simp at hd
      omega
    rcases open_slice uL h3 with ⟨hcs, _⟩ | ⟨a, len, cap, M, n', D, Pl, hcs, _, hlc, hm, hM, hy, hall⟩
    · simp at hcs
      subst hcs
      exact ⟨.mk k m xs [], Rep.mk (bounds_i64 w0) (bounds_u64 w1) b2 l2 m2 (Seg.of_lst s2) (Nat.le_refl _) (by simp [maxLen]) ItemsV.nil⟩
    · simp at hcs
      subst hcs
      simp at hM
      have hcM : M = cap := hM
      clear hM
      subst M
      have hD : ∀ i, i < len → SizeOf.sizeOf (D i) ≤ N := by
        intro i hi
        have hmem : D i ∈ (List.range len).map D := List.mem_map.2 ⟨i, List.mem_range.2 hi, rfl⟩
        have := List.sizeOf_lt_of_mem hmem
        rw [hy] at hd3
        simp at hd3
        omega
      have hex : ∀ i, i < len → ∃ q : Itm × List Value, Rep W 0 W.heap.size q.1 q.2 ∧ ∀ j, j < 4 → W.cell? (a.add (i * 4 + j)) = q.2[j]? := by
        intro i hi
        obtain ⟨cs', g1, g2⟩ := hall i (by omega)
        rw [hC] at g1
        obtain ⟨X, hX⟩ := ih (D i) (hD i hi) n' cs' (Pl i) g2
        obtain ⟨_, q2, q3⟩ := World.cells?_some g1
        refine ⟨(X, cs'), hX, fun j hj => ?_⟩
        rw [← q3 j hj, add_add]
      haveI : Inhabited (Itm × List Value) := ⟨(.mk 0 0 [] [], [])⟩
      obtain ⟨q, hq⟩ := choose_lt (α := Itm × List Value) (p := fun i q => Rep W 0 W.heap.size q.1 q.2 ∧ ∀ j, j < 4 → W.cell? (a.add (i * 4 + j)) = q.2[j]?) hex
      rcases Nat.eq_zero_or_pos len with hz | hz
      · subst hz
        exact ⟨.mk k m xs [], Rep.mk (l := []) (bounds_i64 w0) (bounds_u64 w1) b2 l2 m2 (Seg.of_lst s2) (Nat.zero_le _) hm ItemsV.nil⟩
      · obtain ⟨_, q3⟩ := hq 0 hz
        have hl0 := (hq 0 hz).1.length
        have hs0 := q3 0 (by omega)
        rw [List.getElem?_eq_getElem (by omega)] at hs0
        have hsp : a.spot = none := by simpa [Addr.add] using World.cell?_spot hs0
        have hlt : a.block < W.heap.size := by have := lt_of_cell hs0; rwa [block_add] at this
        obtain ⟨vs, hs, hr⟩ := pieces (W := W) (lo := 0) (hi := W.heap.size) (Nat.zero_le _) hlt hsp len (fun i => (q i).2) (fun i => (q i).1) hq
        have hll : ((List.range len).map fun i => (q i).1).length = len := by simp
        have := Rep.mk (l := (List.range len).map fun i => (q i).1) (c' := cap) (bounds_i64 w0) (bounds_u64 w1) b2 l2 m2 (Seg.of_lst s2) (by rw [hll]; exact hlc) hm ⟨vs, hs, hr⟩
        rw [hll] at this
        exact ⟨_, this⟩

/-- An item that came in. -/
theorem open_item {tI tL tB t8 t0 t1 : TypeId} {f0 f1 f2 f3 : Field} {base : Nat} {v : Value} {d : DataW H} {p : List MemPlace} (hI : P.underlying tI = some (.struct #[f0, f1, f2, f3])) (hC : P.cellsOf tI = 4)
    (o0 : f0.offset = 0) (o1 : f1.offset = 1) (o2 : f2.offset = 2) (o3 : f3.offset = 3) (e0 : f0.type = t0) (e1 : f1.type = t1) (e2 : f2.type = tB) (e3 : f3.type = tL)
    (c0 : P.cellsOf t0 = 1) (c1 : P.cellsOf t1 = 1) (c2 : P.cellsOf tB = 1) (c3 : P.cellsOf tL = 1)
    (u0 : P.underlying t0 = some (.int .i64)) (u1 : P.underlying t1 = some (.int .u64)) (uB : P.underlying tB = some (.slice t8)) (u8 : P.underlying t8 = some (.int .u8)) (c8 : P.cellsOf t8 = 1) (uL : P.underlying tL = some (.slice tI))
    (hval : Value.okWide P W .any base tI v) (h : DataW.Trod enc P W 0 (fun _ => true) true tI v d p) : ∃ X : Itm, ItemV W 0 W.heap.size X v := by
  obtain ⟨a, b, c, e, y0, y1, y2, y3, n, rfl, _, _, h0, h1, h2, h3⟩ := open_agg4 hI (by
    unfold oneCellFields
    simp [o0, o1, o2, o3, e0, e1, e2, e3, c0, c1, c2, c3, List.range, List.range.loop]) hC hval h
  obtain ⟨fuel, hf⟩ := h
  obtain ⟨k, r0, _, _⟩ := DataW.trod_int (by rw [e0]; exact u0) h0
  obtain ⟨m, r1, _, _⟩ := DataW.trod_int (by rw [e1]; exact u1) h1
  obtain ⟨A, l, xs, r2, _⟩ := open_seg (by rw [e2]; exact uB) u8 c8 h2
  obtain ⟨A', l', c', r3⟩ : ∃ A' l' c', [e] = [Value.slice A' l' c'] := by
    rcases open_slice (by rw [e3]; exact uL) h3 with ⟨hcs, _⟩ | ⟨a, len, cap, M, n', D, Pl, hcs, _⟩
    · exact ⟨_, _, _, hcs⟩
    · exact ⟨_, _, _, hcs⟩
  simp at r0 r1 r2 r3
  subst r0 r1 r2 r3
  obtain ⟨X, hX⟩ := open_rep hI hC o0 o1 o2 o3 e0 e1 e2 e3 c0 c1 c2 c3 u0 u1 uB u8 c8 uL (SizeOf.sizeOf d) d (Nat.le_refl _) fuel _ p hf
  refine ⟨X, _, ?_, hX⟩
  simp [Value.cells]
end
end Go.Proofs.YtbgcbcnidjlhnaaDoor.Fr
/- The opener of items that came in. -/
namespace Go.Proofs.YtbgcbcnidjlhnaaDoor.Fr
open Go.ChangeShapes Go.WideShapes Go.ChangeAt Go.RowKit Go.Joins Go.Deep Wd Cb

section
variable {H : Type} {enc : TypeId × Value → H} {P : Program} {W : World}

/-- A slice of items that came in. -/
theorem open_items {tS tI tL tB t8 t0 t1 : TypeId} {f0 f1 f2 f3 : Field} {base : Nat} {v : Value} {d : DataW H} {p : List MemPlace} (hS : P.underlying tS = some (.slice tI)) (hI : P.underlying tI = some (.struct #[f0, f1, f2, f3])) (hC : P.cellsOf tI = 4)
    (o0 : f0.offset = 0) (o1 : f1.offset = 1) (o2 : f2.offset = 2) (o3 : f3.offset = 3) (e0 : f0.type = t0) (e1 : f1.type = t1) (e2 : f2.type = tB) (e3 : f3.type = tL)
    (c0 : P.cellsOf t0 = 1) (c1 : P.cellsOf t1 = 1) (c2 : P.cellsOf tB = 1) (c3 : P.cellsOf tL = 1)
    (u0 : P.underlying t0 = some (.int .i64)) (u1 : P.underlying t1 = some (.int .u64)) (uB : P.underlying tB = some (.slice t8)) (u8 : P.underlying t8 = some (.int .u8)) (c8 : P.cellsOf t8 = 1) (uL : P.underlying tL = some (.slice tI))
    (hval : Value.okWide P W .any base tS v) (h : DataW.Trod enc P W 0 (fun _ => true) true tS v d p) : ∃ (A : Option Addr) (c : Nat) (l : List Itm), v = .slice A l.length c ∧ l.length ≤ c ∧ c ≤ maxLen ∧ ItemsV W 0 W.heap.size l A := by
  obtain ⟨a0, l0, k0, rfl⟩ := okWide_slice hS hval
  obtain ⟨fuel, hx⟩ := h
  rcases open_slice hS hx with ⟨hcs, _⟩ | ⟨a, len, cap, M, n', D, Pl, hcs, _, hlc, hm, hM, _, hall⟩
  · simp [Value.cells] at hcs
    obtain ⟨rfl, rfl, rfl⟩ := hcs
    exact ⟨none, 0, [], rfl, Nat.le_refl _, by simp [maxLen], ItemsV.nil⟩
  · simp [Value.cells] at hcs
    obtain ⟨rfl, rfl, rfl⟩ := hcs
    simp at hM
    have hcM : M = k0 := hM
    clear hM
    subst M
    have hex : ∀ i, i < l0 → ∃ q : Itm × List Value, Rep W 0 W.heap.size q.1 q.2 ∧ ∀ j, j < 4 → W.cell? (a.add (i * 4 + j)) = q.2[j]? := by
      intro i hi
      obtain ⟨cs', g1, g2⟩ := hall i (by omega)
      rw [hC] at g1
      obtain ⟨X, hX⟩ := open_rep hI hC o0 o1 o2 o3 e0 e1 e2 e3 c0 c1 c2 c3 u0 u1 uB u8 c8 uL (SizeOf.sizeOf (D i)) (D i) (Nat.le_refl _) n' cs' (Pl i) g2
      obtain ⟨_, q2, q3⟩ := World.cells?_some g1
      refine ⟨(X, cs'), hX, fun j hj => ?_⟩
      rw [← q3 j hj, add_add]
    haveI : Inhabited (Itm × List Value) := ⟨(.mk 0 0 [] [], [])⟩
    obtain ⟨q, hq⟩ := choose_lt (α := Itm × List Value) (p := fun i q => Rep W 0 W.heap.size q.1 q.2 ∧ ∀ j, j < 4 → W.cell? (a.add (i * 4 + j)) = q.2[j]?) hex
    rcases Nat.eq_zero_or_pos l0 with hz | hz
    · subst hz
      exact ⟨some a, k0, [], rfl, Nat.zero_le _, hm, ItemsV.nil⟩
    · obtain ⟨_, q3⟩ := hq 0 hz
      have hl0 := (hq 0 hz).1.length
      have hs0 := q3 0 (by omega)
      rw [List.getElem?_eq_getElem (by omega)] at hs0
      have hsp : a.spot = none := by simpa [Addr.add] using World.cell?_spot hs0
      have hlt : a.block < W.heap.size := by have := lt_of_cell hs0; rwa [block_add] at this
      obtain ⟨vs, hs, hr⟩ := pieces (W := W) (lo := 0) (hi := W.heap.size) (Nat.zero_le _) hlt hsp l0 (fun i => (q i).2) (fun i => (q i).1) hq
      have hll : ((List.range l0).map fun i => (q i).1).length = l0 := by simp
      exact ⟨some a, k0, (List.range l0).map fun i => (q i).1, by rw [hll], by rw [hll]; exact hlc, hm, vs, hs, hr⟩
end
end Go.Proofs.YtbgcbcnidjlhnaaDoor.Fr
