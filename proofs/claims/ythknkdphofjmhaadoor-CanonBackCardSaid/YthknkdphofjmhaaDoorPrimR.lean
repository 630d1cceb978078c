/- The contract of Right (layer 6). -/
import Derived.Test.YthknkdphofjmhaaDoorPrimQ
import Derived.Test.YthknkdphofjmhaaDoorZg6
namespace Go.Proofs.YthknkdphofjmhaaDoor.Prim
open Go.RowKit Wd Cb Eid

abbrev Prm.cells (p : Prm) : Array Value := #[.int .u64 p.flags, .int .i64 p.sum, .bool p.dest.ipn, .int .u64 p.dest.node, .int .u64 p.dest.service, .string p.dest.host, .string p.dest.demux, .bool p.report.ipn, .int .u64 p.report.node, .int .u64 p.report.service, .string p.report.host, .string p.report.demux, .bool p.id.src.ipn, .int .u64 p.id.src.node, .int .u64 p.id.src.service, .string p.id.src.host, .string p.id.src.demux, .int .u64 p.id.time, .int .u64 p.id.seq, .int .u64 p.life]
abbrev Prm.val (p : Prm) : Value := .agg p.cells
theorem cells20 {w : World} {g : Nat} {t : TypeId} {a0 a1 a2 a3 a4 a5 a6 a7 a8 a9 a10 a11 a12 a13 a14 a15 a16 a17 a18 a19 : Value} (h : Blk w g t #[a0, a1, a2, a3, a4, a5, a6, a7, a8, a9, a10, a11, a12, a13, a14, a15, a16, a17, a18, a19]) :
    w.cell? ⟨g, 0, none⟩ = some a0 ∧ w.cell? ⟨g, 1, none⟩ = some a1 ∧ w.cell? ⟨g, 2, none⟩ = some a2 ∧ w.cell? ⟨g, 3, none⟩ = some a3 ∧ w.cell? ⟨g, 4, none⟩ = some a4 ∧ w.cell? ⟨g, 5, none⟩ = some a5 ∧ w.cell? ⟨g, 6, none⟩ = some a6 ∧ w.cell? ⟨g, 7, none⟩ = some a7 ∧ w.cell? ⟨g, 8, none⟩ = some a8 ∧ w.cell? ⟨g, 9, none⟩ = some a9 ∧ w.cell? ⟨g, 10, none⟩ = some a10 ∧ w.cell? ⟨g, 11, none⟩ = some a11 ∧ w.cell? ⟨g, 12, none⟩ = some a12 ∧ w.cell? ⟨g, 13, none⟩ = some a13 ∧ w.cell? ⟨g, 14, none⟩ = some a14 ∧ w.cell? ⟨g, 15, none⟩ = some a15 ∧ w.cell? ⟨g, 16, none⟩ = some a16 ∧ w.cell? ⟨g, 17, none⟩ = some a17 ∧ w.cell? ⟨g, 18, none⟩ = some a18 ∧ w.cell? ⟨g, 19, none⟩ = some a19 :=
  ⟨by simpa using h.cell 0, by simpa using h.cell 1, by simpa using h.cell 2, by simpa using h.cell 3, by simpa using h.cell 4, by simpa using h.cell 5, by simpa using h.cell 6, by simpa using h.cell 7, by simpa using h.cell 8, by simpa using h.cell 9, by simpa using h.cell 10, by simpa using h.cell 11, by simpa using h.cell 12, by simpa using h.cell 13, by simpa using h.cell 14, by simpa using h.cell 15, by simpa using h.cell 16, by simpa using h.cell 17, by simpa using h.cell 18, by simpa using h.cell 19⟩

set_option maxRecDepth 100000 in
set_option maxHeartbeats 8000000 in
theorem pright_any (p : Prm) (hp : p.ok) (w : World) : Calls Tryd.prog 52 #[p.val] w fun e w' => e = .returned (.bool (pright p)) ∧ Below w.heap.size w w' := by
  have CD := Lib.hid (fun w' => right_any p.dest hp.d w')
  have CP := Lib.hid (fun w' => right_any p.report hp.r w')
  have CI := Lib.hid (fun w' => iright_any p.id hp.i w')
  have HE := Lib.hid (show pright p = (fok p.flags && (decide (0 ≤ p.sum) && (decide (p.sum < 3) && (right p.dest && (right p.report && (iright p.id && decide (p.life ≤ 1099511627776))))))) from rfl)
  clear hp
  generalize pright p = pr at *
  generalize right p.dest = r1 at *
  generalize right p.report = r2 at *
  generalize iright p.id = r3 at *
  obtain ⟨f, sm, ⟨di, dn, ds, dh, dd⟩, ⟨ri, rn, rs, rh, rd⟩, ⟨⟨ii, inn, iss, ih, idd⟩, t, q⟩, lf⟩ := p
  have HB0 := Lib.hid ((Below.refl w.heap.size w).alloc (Nat.le_refl _) (.cells #[.int .u64 f, .int .i64 sm, .bool di, .int .u64 dn, .int .u64 ds, .string dh, .string dd, .bool ri, .int .u64 rn, .int .u64 rs, .string rh, .string rd, .bool ii, .int .u64 inn, .int .u64 iss, .string ih, .string idd, .int .u64 t, .int .u64 q, .int .u64 lf] 70))
  have HK0 := Lib.hid (Blk.new w 70 #[.int .u64 f, .int .i64 sm, .bool di, .int .u64 dn, .int .u64 ds, .string dh, .string dd, .bool ri, .int .u64 rn, .int .u64 rs, .string rh, .string rd, .bool ii, .int .u64 inn, .int .u64 iss, .string ih, .string idd, .int .u64 t, .int .u64 q, .int .u64 lf])
  go_enter Tryd.func52, Tryd.ntmps52
  go_upto_region 1 with (fail)
  generalize w.alloc (.cells #[.int .u64 f, .int .i64 sm, .bool di, .int .u64 dn, .int .u64 ds, .string dh, .string dd, .bool ri, .int .u64 rn, .int .u64 rs, .string rh, .string rd, .bool ii, .int .u64 inn, .int .u64 iss, .string ih, .string idd, .int .u64 t, .int .u64 q, .int .u64 lf] 70) = w0 at *
  obtain ⟨c0, c1, c2, c3, c4, c5, c6, c7, c8, c9, c10, c11, c12, c13, c14, c15, c16, c17, c18, c19⟩ := cells20 HK0.out
  cases hf : fok f
  · have hf' : (bits .andNot .u64 f 409638 == 0) = false := hf
    have HF := Lib.hid (show pr = false by rw [HE.out, hf]; simp)
    go_wp2_with fail
    go_ret
    exact ⟨by rw [HF.out]; rfl, HB0.out⟩
  have hf' : (bits .andNot .u64 f 409638 == 0) = true := hf
  cases h1 : decide (0 ≤ sm)
  · have HF := Lib.hid (show pr = false by rw [HE.out, h1]; simp)
    go_wp2_with fail
    go_ret
    exact ⟨by rw [HF.out]; rfl, HB0.out⟩
  cases h2 : decide (sm < 3)
  · have HF := Lib.hid (show pr = false by rw [HE.out, h2]; simp)
    go_wp2_with fail
    go_ret
    exact ⟨by rw [HF.out]; rfl, HB0.out⟩
  go_wp2_with fail
  refine (CD.out _).mono ?_
  rintro e w1 ⟨rfl, hb⟩
  have HB1 := Lib.hid (below_next HB0.out HB0.out.size hb)
  have HK1 := Lib.hid (HK0.out.next hb)
  clear c0 c1 c2 c3 c4 c5 c6 c7 c8 c9 c10 c11 c12 c13 c14 c15 c16 c17 c18 c19 hb
  obtain ⟨c0, c1, c2, c3, c4, c5, c6, c7, c8, c9, c10, c11, c12, c13, c14, c15, c16, c17, c18, c19⟩ := cells20 HK1.out
  cases r1
  · have HF := Lib.hid (show pr = false by rw [HE.out]; simp)
    go_wp2_with fail
    go_ret
    exact ⟨by rw [HF.out]; rfl, HB1.out⟩
  go_wp2_with fail
  refine (CP.out _).mono ?_
  rintro e w2 ⟨rfl, hb⟩
  have HB2 := Lib.hid (below_next HB1.out HB1.out.size hb)
  have HK2 := Lib.hid (HK1.out.next hb)
  clear c0 c1 c2 c3 c4 c5 c6 c7 c8 c9 c10 c11 c12 c13 c14 c15 c16 c17 c18 c19 hb
  obtain ⟨c0, c1, c2, c3, c4, c5, c6, c7, c8, c9, c10, c11, c12, c13, c14, c15, c16, c17, c18, c19⟩ := cells20 HK2.out
  cases r2
  · have HF := Lib.hid (show pr = false by rw [HE.out]; simp)
    go_wp2_with fail
    go_ret
    exact ⟨by rw [HF.out]; rfl, HB2.out⟩
  go_wp2_with fail
  refine (CI.out _).mono ?_
  rintro e w3 ⟨rfl, hb⟩
  have HB3 := Lib.hid (below_next HB2.out HB2.out.size hb)
  have HK3 := Lib.hid (HK2.out.next hb)
  clear c0 c1 c2 c3 c4 c5 c6 c7 c8 c9 c10 c11 c12 c13 c14 c15 c16 c17 c18 c19 hb
  obtain ⟨c0, c1, c2, c3, c4, c5, c6, c7, c8, c9, c10, c11, c12, c13, c14, c15, c16, c17, c18, c19⟩ := cells20 HK3.out
  cases r3
  · have HF := Lib.hid (show pr = false by rw [HE.out]; simp)
    go_wp2_with fail
    go_ret
    exact ⟨by rw [HF.out]; rfl, HB3.out⟩
  cases h4 : decide (lf ≤ 1099511627776)
  · have HF := Lib.hid (show pr = false by rw [HE.out, h4]; simp)
    go_wp2_with fail
    go_ret
    exact ⟨by rw [HF.out]; rfl, HB3.out⟩
  have HF := Lib.hid (show pr = true by rw [HE.out, hf, h1, h2, h4]; simp)
  go_wp2_with fail
  go_ret
  exact ⟨by rw [HF.out]; rfl, HB3.out⟩
end Go.Proofs.YthknkdphofjmhaaDoor.Prim
