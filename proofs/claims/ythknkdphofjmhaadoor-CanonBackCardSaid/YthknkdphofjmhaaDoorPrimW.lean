/- The contract of Write (layer 6). -/
import Derived.Test.YthknkdphofjmhaaDoorPrimR
import Derived.Test.YthknkdphofjmhaaDoorZgc
import Derived.Test.YthknkdphofjmhaaDoorZg6
import Derived.BigRegion
namespace Go.Proofs.YthknkdphofjmhaaDoor.Prim
open Go.RowKit Wd Cb Eid EncB CbCopy CbList CbRight CbWrite CbLays

theorem info20 : (Tryd.prog.info? 70).map (·.size) = some 20 := by kernel_rfl
theorem bel_alloc {a w : World} (h : Below a.heap.size a w) (o : Obj) : Below a.heap.size a (w.alloc o) := h.alloc h.size o
theorem bel_call {a w w' : World} (h : Below a.heap.size a w) (k : Below w.heap.size w w') : Below a.heap.size a w' := below_next h h.size k
theorem bel_drew {a w : World} (h : Below a.heap.size a w) : Below a.heap.size a w.drew := h.drew
theorem bel_set {a w : World} (h : Below a.heap.size a w) {p : Addr} (hp : a.heap.size ≤ p.block) (u : Value) : Below a.heap.size a (w.setCell p u) := h.setCell hp u
theorem two_first (W : World) (t : TypeId) (cs : Array Value) (o : Obj) : Blk ((W.alloc (.cells cs t)).alloc o).drew W.heap.size t cs := ((Blk.new W t cs).alloc o).drew
theorem two_second (W : World) (t : TypeId) (cs : Array Value) (o : Obj) : Blk ((W.alloc o).alloc (.cells cs t)).drew (W.heap.size + 1) t cs := by
  have h := (Blk.new (W.alloc o) t cs).drew
  rwa [World.size_alloc] at h
theorem belA {B : Nat} {a w : World} (hB : B = a.heap.size) (h : Below B a w) (o : Obj) : Below B a (w.alloc o) := h.alloc (hB ▸ h.size) o
theorem belD {B : Nat} {a w : World} (h : Below B a w) : Below B a w.drew := h.drew
theorem agg4 {w : World} {lo hi : Nat} {x : Itm} {a b c d : Value} (h : ItemV w lo hi x (.agg #[a, b, c, d])) : Rep w lo hi x [a, b, c, d] := by
  obtain ⟨cs, e, r⟩ := h
  obtain rfl : cs = [a, b, c, d] := by simpa using (congrArg (fun v => match v with | Value.agg c => c.toList | _ => []) e).symm
  exact r
theorem v4_of {w : World} {lo hi : Nat} {x : Itm} {v : Value} (h : ItemV w lo hi x v) : ∃ k n A b c A' b' c', v = .agg #[.int .i64 k, .int .u64 n, .slice A b c, .slice A' b' c'] := by
  obtain ⟨_, _, _, _, e, _⟩ := h.open_
  exact ⟨_, _, _, _, _, _, _, _, e⟩
/-- The parts of a list of two. -/
theorem two_parts {w : World} {hi : Nat} {x y : Itm} {v : Value} (h : ItemV w 0 hi (iL x y) v) : ∃ A0 c0 b o c A1 a1 b1 A2 a2 b2 A3 a3 b3 A4 a4 b4, v = .agg #[.int .i64 4, .int .u64 0, .slice A0 0 c0, .slice (some ⟨b, o, none⟩) 2 c] ∧ b < hi ∧ 2 ≤ c ∧ c ≤ maxLen ∧
    (w.cell? ⟨b, o, none⟩ = some (.int .i64 x.kind) ∧ w.cell? ⟨b, o + 1, none⟩ = some (.int .u64 x.num) ∧ w.cell? ⟨b, o + 2, none⟩ = some (.slice A1 a1 b1) ∧ w.cell? ⟨b, o + 3, none⟩ = some (.slice A2 a2 b2)) ∧
    (w.cell? ⟨b, o + 4, none⟩ = some (.int .i64 y.kind) ∧ w.cell? ⟨b, o + 4 + 1, none⟩ = some (.int .u64 y.num) ∧ w.cell? ⟨b, o + 4 + 2, none⟩ = some (.slice A3 a3 b3) ∧ w.cell? ⟨b, o + 4 + 3, none⟩ = some (.slice A4 a4 b4)) ∧
    ItemV w 0 hi x (.agg #[.int .i64 x.kind, .int .u64 x.num, .slice A1 a1 b1, .slice A2 a2 b2]) ∧ ItemV w 0 hi y (.agg #[.int .i64 y.kind, .int .u64 y.num, .slice A3 a3 b3, .slice A4 a4 b4]) := by
  obtain ⟨A0, c0, A', c', rfl, _, _, _, _, _, _, h1, h2, h3⟩ := h.open_
  obtain ⟨b, o, A1, b1, A2, b2, rfl, _, hb, e0, e1, e2, e3, r1, r2, r3, r4, r5, r6, r7, r8, r9⟩ := h3.at_ (k := 0) (by simp [Itm.sub])
  obtain ⟨b', o', A3, b3, A4, b4, he, _, hb', f0, f1, f2, f3, s1, s2, s3, s4, s5, s6, s7, s8, s9⟩ := h3.at_ (k := 1) (by simp [Itm.sub])
  injection he with he
  injection he with he1 he2
  subst he1
  subst he2
  simp only [Nat.zero_mul, Nat.add_zero, Nat.one_mul, Itm.sub, List.getElem_cons_zero, List.getElem_cons_succ] at *
  exact ⟨A0, c0, b, o, c', A1, _, b1, A2, _, b2, A3, _, b3, A4, _, b4, rfl, hb, h1, h2, ⟨e0, e1, e2, e3⟩, ⟨f0, f1, f2, f3⟩, ItemV.of r1 r2 r3 r4 r5 r6 r7 r8 r9, ItemV.of s1 s2 s3 s4 s5 s6 s7 s8 s9⟩
/-- Eight items in a row. -/
theorem items8 {W : World} {g hi : Nat} {x0 x1 x2 x3 x4 x5 x6 x7 : Itm} {v00 v01 v02 v03 v10 v11 v12 v13 v20 v21 v22 v23 v30 v31 v32 v33 v40 v41 v42 v43 v50 v51 v52 v53 v60 v61 v62 v63 v70 v71 v72 v73 : Value}
    (h0 : ItemV W 0 hi x0 (.agg #[v00, v01, v02, v03]))
    (h1 : ItemV W 0 hi x1 (.agg #[v10, v11, v12, v13]))
    (h2 : ItemV W 0 hi x2 (.agg #[v20, v21, v22, v23]))
    (h3 : ItemV W 0 hi x3 (.agg #[v30, v31, v32, v33]))
    (h4 : ItemV W 0 hi x4 (.agg #[v40, v41, v42, v43]))
    (h5 : ItemV W 0 hi x5 (.agg #[v50, v51, v52, v53]))
    (h6 : ItemV W 0 hi x6 (.agg #[v60, v61, v62, v63]))
    (h7 : ItemV W 0 hi x7 (.agg #[v70, v71, v72, v73]))
    (hk : Blk W g 26 #[v00, v01, v02, v03, v10, v11, v12, v13, v20, v21, v22, v23, v30, v31, v32, v33, v40, v41, v42, v43, v50, v51, v52, v53, v60, v61, v62, v63, v70, v71, v72, v73]) (hg : g < hi) : ItemsV W 0 hi [x0, x1, x2, x3, x4, x5, x6, x7] (some ⟨g, 0, none⟩) := by
  refine ⟨[v00, v01, v02, v03, v10, v11, v12, v13, v20, v21, v22, v23, v30, v31, v32, v33, v40, v41, v42, v43, v50, v51, v52, v53, v60, v61, v62, v63, v70, v71, v72, v73], .inr ⟨g, 0, rfl, Nat.zero_le _, hg, fun j _ => ?_⟩, ?_⟩
  · rw [Nat.zero_add]
    simpa using hk.cell j
  · exact Reps.append (l := [x0]) (Reps.one (agg4 h0)) (Reps.append (l := [x1]) (Reps.one (agg4 h1)) (Reps.append (l := [x2]) (Reps.one (agg4 h2)) (Reps.append (l := [x3]) (Reps.one (agg4 h3)) (Reps.append (l := [x4]) (Reps.one (agg4 h4)) (Reps.append (l := [x5]) (Reps.one (agg4 h5)) (Reps.append (l := [x6]) (Reps.one (agg4 h6)) (Reps.one (agg4 h7))))))))
end Go.Proofs.YthknkdphofjmhaaDoor.Prim
