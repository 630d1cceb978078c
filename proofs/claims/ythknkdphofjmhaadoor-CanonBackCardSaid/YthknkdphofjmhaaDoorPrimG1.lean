/- The closures of guess (layer 6): an item found, a name found. -/
import Derived.Test.YthknkdphofjmhaaDoorPrimW
import Derived.Test.YthknkdphofjmhaaDoorEidRd
namespace Go.Proofs.YthknkdphofjmhaaDoor.Prim
open Go.RowKit Wd Cb Eid EncB CbCopy CbList CbRight CbWrite CbLays

set_option maxRecDepth 100000 in
set_option maxHeartbeats 4000000 in
theorem find_any (l : List Itm) (A : Option Addr) (c b0 k : Nat) (w : World) (hi : ItemsV w 0 w.heap.size l A) (hb : w.cell? ⟨b0, 0, none⟩ = some (.slice A l.length c)) (hl : b0 < w.heap.size) (hc : l.length ≤ c) (hm : c ≤ maxLen) (hk : k ≤ 100) :
    Calls Tryd.prog 78 #[.int .i64 k, .pointer (some ⟨b0, 0, none⟩)] w fun e w' => ∃ v, e = .returned v ∧ Hid (ItemV w' 0 w'.heap.size (find l k) v) ∧ Below w.heap.size w w' := by
  unfold maxLen at hm
  by_cases hlt : k < l.length
  · obtain ⟨b, o, A1, c1, A2, c2, rfl, _, hbb, e0, e1, e2, e3, r1, r2, r3, r4, r5, r6, r7, r8, r9⟩ := hi.at_ hlt
    have HX := Lib.hid (ItemV.of r1 r2 r3 r4 r5 r6 r7 r8 r9)
    have hf : find l k = l[k] := by unfold find; simp [List.getD, hlt]
    have HF := Lib.hid hf
    have j0 : (0 : Int) ≤ (k : Int) := by omega
    have j1 : (k : Int) < (l.length : Int) := by omega
    have d1 : decide ((l.length : Int) ≤ (k : Int)) = false := decide_eq_false (by omega)
    have d2 : decide (l.length ≤ k) = false := decide_eq_false (by omega)
    clear r1 r2 r3 r4 r5 r6 r7 r8 r9 hi hf
    generalize l[k] = x at *
    generalize x.kind = xk at *
    generalize x.num = xn at *
    generalize x.bs.length = xb at *
    generalize x.sub.length = xs at *
    go_enter Tryd.func78, Tryd.ntmps78
    go_wp2_with fail
    have HB := Lib.hid ((Below.refl w.heap.size w).alloc (Nat.le_refl _) (.cells #[.int .i64 xk, .int .u64 xn, .slice A1 xb c1, .slice A2 xs c2] 26))
    exact bodyPost_ret (v := .agg #[.int .i64 xk, .int .u64 xn, .slice A1 xb c1, .slice A2 xs c2]) (by simp [results, Tryd.results78, go_sem]) rfl ⟨_, rfl, Lib.hid (by rw [HF.out]; exact (HX.out.below HB.out).more (Nat.le_refl _) HB.out.size), HB.out⟩
  · have hf : find l k = iN 0 := by unfold find; simp [List.getD, List.getElem?_eq_none (show l.length ≤ k by omega)]
    have HF := Lib.hid hf
    have d1 : decide ((l.length : Int) ≤ (k : Int)) = true := decide_eq_true (by omega)
    have d2 : decide (l.length ≤ k) = true := decide_eq_true (by omega)
    clear hi hf
    go_enter Tryd.func78, Tryd.ntmps78
    go_wp2_with fail
    exact bodyPost_ret (v := zeroV) (by simp [results, Tryd.results78, go_sem]) rfl ⟨_, rfl, Lib.hid (by rw [HF.out]; exact item_num _ _ _ 0 ⟨by omega, by omega⟩), (Below.refl w.heap.size w).alloc (Nat.le_refl _) _⟩

theorem cells5' {w : World} {g : Nat} {t : TypeId} {a b c d e : Value} (h : Blk w g t #[a, b, c, d, e]) : (w.cell? ⟨g, 0, none⟩ = some a ∧ w.cell? ⟨g, 1, none⟩ = some b ∧ w.cell? ⟨g, 2, none⟩ = some c ∧ w.cell? ⟨g, 3, none⟩ = some d ∧ w.cell? ⟨g, 4, none⟩ = some e) ∧ (w.frozen? ⟨g, 0, none⟩ = false ∧ w.frozen? ⟨g, 1, none⟩ = false ∧ w.frozen? ⟨g, 2, none⟩ = false ∧ w.frozen? ⟨g, 3, none⟩ = false ∧ w.frozen? ⟨g, 4, none⟩ = false) :=
  ⟨⟨by simpa using h.cell 0, by simpa using h.cell 1, by simpa using h.cell 2, by simpa using h.cell 3, by simpa using h.cell 4⟩, h.frozen 0, h.frozen 1, h.frozen 2, h.frozen 3, h.frozen 4⟩
abbrev set5 (w : World) (g : Nat) (a b c d e : Value) : World := ((((w.setCell ⟨g, 0, none⟩ a).setCell ⟨g, 1, none⟩ b).setCell ⟨g, 2, none⟩ c).setCell ⟨g, 3, none⟩ d).setCell ⟨g, 4, none⟩ e
theorem set5_blk {w : World} {g : Nat} {t : TypeId} {a0 b0 c0 d0 e0 : Value} (h : Blk w g t #[a0, b0, c0, d0, e0]) (a b c d e : Value) : Blk (set5 w g a b c d e) g t #[a, b, c, d, e] := ((((h.set_ 0 a).set_ 1 b).set_ 2 c).set_ 3 d).set_ 4 e
theorem set5_below {B g : Nat} {w0 w : World} (hb : Below B w0 w) (hB : B ≤ g) (a b c d e : Value) : Below B w0 (set5 w g a b c d e) :=
  ((((hb.setCell (p := ⟨g, 0, none⟩) hB _).setCell (p := ⟨g, 1, none⟩) hB _).setCell (p := ⟨g, 2, none⟩) hB _).setCell (p := ⟨g, 3, none⟩) hB _).setCell (p := ⟨g, 4, none⟩) hB _
/-- The first closure, as a value. -/
abbrev F1 (b0 : Nat) : Value := .func (.func 78) #[] #[.pointer (some ⟨b0, 0, none⟩)]
set_option maxRecDepth 100000 in
set_option maxHeartbeats 4000000 in
theorem name_any (l : List Itm) (A : Option Addr) (c b0 b2 k : Nat) (w : World) (hi : ItemsV w 0 w.heap.size l A) (hb : w.cell? ⟨b0, 0, none⟩ = some (.slice A l.length c)) (hl : b0 < w.heap.size) (hc : l.length ≤ c) (hm : c ≤ maxLen) (hk : k ≤ 100)
    (hb2 : w.cell? ⟨b2, 0, none⟩ = some (F1 b0)) (hl2 : b2 < w.heap.size) :
    Calls Tryd.prog 79 #[.int .i64 k, .pointer (some ⟨b2, 0, none⟩)] w fun e w' => e = .returned (rdI (find l k)).val ∧ Below w.heap.size w w' := by
  have HB0 := Lib.hid ((Below.refl w.heap.size w).alloc (Nat.le_refl _) (.cells #[.bool false, .int .u64 0, .int .u64 0, .string ⟨#[]⟩, .string ⟨#[]⟩] 48))
  have HK0 := Lib.hid (Blk.new w 48 #[.bool false, .int .u64 0, .int .u64 0, .string ⟨#[]⟩, .string ⟨#[]⟩])
  have hc0 : (w.alloc (.cells #[.bool false, .int .u64 0, .int .u64 0, .string ⟨#[]⟩, .string ⟨#[]⟩] 48)).cell? ⟨b2, 0, none⟩ = some (F1 b0) := (HB0.out.cell (p := ⟨b2, 0, none⟩) hl2).trans hb2
  have CF := Lib.hid (find_any l A c b0 k _ ((hi.below HB0.out).more (Nat.le_refl _) HB0.out.size) ((HB0.out.cell (p := ⟨b0, 0, none⟩) hl).trans hb) (Nat.lt_of_lt_of_le hl HB0.out.size) hc hm hk)
  have HR := Lib.hid (fun (v : Value) (W : World) (h : ItemV W 0 W.heap.size (find l k) v) => read_all (find l k) v W h)
  clear hi hb hl hc hm hb2
  generalize rdI (find l k) = R at *
  generalize rdE (find l k) = RE at *
  obtain ⟨ri, rn, rs, rh, rd⟩ := R
  go_enter Tryd.func79, Tryd.ntmps79
  go_upto_region 1 with (fail)
  generalize w.alloc (.cells #[.bool false, .int .u64 0, .int .u64 0, .string ⟨#[]⟩, .string ⟨#[]⟩] 48) = w0 at *
  go_wp2_with fail
  refine CF.out.mono ?_
  rintro e w1 ⟨v1, rfl, HI, hb1⟩
  have HB1 := Lib.hid (below_next HB0.out HB0.out.size hb1)
  have HK1 := Lib.hid (HK0.out.next hb1)
  have CR := Lib.hid (HR.out v1 w1 HI.out)
  clear hb1 HI HB0 HK0 CF HR hc0
  go_wp2_with fail
  refine CR.out.mono ?_
  rintro e w2 ⟨rfl, hb2⟩
  have HB2 := Lib.hid (below_next HB1.out HB1.out.size hb2)
  have HK2 := Lib.hid (HK1.out.next hb2)
  have hz2 : w.heap.size < w2.heap.size := HK2.out.lt
  have HB3 := Lib.hid (HB2.out.alloc HB2.out.size (.cells #[.bool ri, .int .u64 rn, .int .u64 rs, .string rh, .string rd] 48))
  have HK3 := Lib.hid (HK2.out.alloc (.cells #[.bool ri, .int .u64 rn, .int .u64 rs, .string rh, .string rd] 48))
  have HL3 := Lib.hid (Blk.new w2 48 #[.bool ri, .int .u64 rn, .int .u64 rs, .string rh, .string rd])
  clear hb2 HB1 HK1 CR HB2 HK2
  go_upto_region 2 with (fail)
  generalize w2.alloc (.cells #[.bool ri, .int .u64 rn, .int .u64 rs, .string rh, .string rd] 48) = W3 at *
  obtain ⟨⟨z0, z1, z2, z3, z4⟩, u0, u1, u2, u3, u4⟩ := cells5' HK3.out
  obtain ⟨⟨y0, y1, y2, y3, y4⟩, -⟩ := cells5' HL3.out
  go_wp2_with fail
  generalize hW9 : set5 W3 w.heap.size (.bool ri) (.int .u64 rn) (.int .u64 rs) (.string rh) (.string rd) = W9
  unfold set5 at hW9
  have HB9 : Hid (Below w.heap.size w W9) := Lib.hid (by rw [← hW9]; exact set5_below HB3.out (Nat.le_refl _) _ _ _ _ _)
  have HK9 : Hid (Blk W9 w.heap.size 48 #[.bool ri, .int .u64 rn, .int .u64 rs, .string rh, .string rd]) := Lib.hid (by rw [← hW9]; exact set5_blk HK3.out _ _ _ _ _)
  rw [hW9]
  clear hW9 z0 z1 z2 z3 z4 u0 u1 u2 u3 u4 y0 y1 y2 y3 y4 HB3 HK3 HL3
  obtain ⟨⟨z0, z1, z2, z3, z4⟩, u0, u1, u2, u3, u4⟩ := cells5' HK9.out
  exact bodyPost_ret (v := .agg #[.bool ri, .int .u64 rn, .int .u64 rs, .string rh, .string rd]) (by simp [results, Tryd.results79, go_sem, z0, z1, z2, z3, z4]) rfl ⟨rfl, HB9.out⟩
end Go.Proofs.YthknkdphofjmhaaDoor.Prim
