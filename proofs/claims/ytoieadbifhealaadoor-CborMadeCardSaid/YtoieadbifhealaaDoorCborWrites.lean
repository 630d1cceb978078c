/- The walk of law03's CborWrites. -/
import Derived.Test.YtoieadbifhealaaDoorGreat
import Derived.Test.YtoieadbifhealaaDoorAlive03
import Derived.Test.YtoieadbifhealaaDoorAs03
import Derived.Test.YtoieadbifhealaaDoorRefSame
import Derived.Test.YtoieadbifhealaaDoorRefWrite
import Derived.Test.YtoieadbifhealaaDoorCborBack
import Derived.Deep.CutBlock
import Derived.Deep.RegionHeld3
import Derived.Deep.RegionLaw
namespace Go.Proofs.YtoieadbifhealaaDoor.CborWrites
open Go.RowKit Wd Cb CbCopy CbRight CbWrite CbHead CbPiece CbBytes U8V CbRead CbSame CbShort Great Alive03 As03 RefSame RefRight RefWrite CborBack

/-- A block's four cells, as a walk wants them. -/
def Four (w : World) (g : Nat) (a b c d : Value) : Prop :=
  (w.cell? ⟨g, 0, none⟩ = some a ∧ w.cell? ⟨g, 1, none⟩ = some b ∧ w.cell? ⟨g, 2, none⟩ = some c ∧ w.cell? ⟨g, 3, none⟩ = some d) ∧
  (w.frozen? ⟨g, 0, none⟩ = false ∧ w.frozen? ⟨g, 1, none⟩ = false ∧ w.frozen? ⟨g, 2, none⟩ = false ∧ w.frozen? ⟨g, 3, none⟩ = false)
theorem Four.of {w : World} {g : Nat} {t : TypeId} {a b c d : Value} (h : Blk w g t #[a, b, c, d]) : Four w g a b c d := ⟨cells4 h, h.frozen 0, h.frozen 1, h.frozen 2, h.frozen 3⟩
/-- An item as the document's lies in a block. -/
def Laid (w : World) (g : Nat) (x : Itm) : Prop := g < w.heap.size ∧ ∃ (k n : Int) (A : Option Addr) (b c : Nat) (A' : Option Addr) (b' c' : Nat), (w.cell? ⟨g, 0, none⟩ = some (.int .i64 k) ∧ w.cell? ⟨g, 1, none⟩ = some (.int .u64 n) ∧ w.cell? ⟨g, 2, none⟩ = some (.slice A b c) ∧ w.cell? ⟨g, 3, none⟩ = some (.slice A' b' c')) ∧
  ItemV w 0 w.heap.size x (.agg #[.int .i64 k, .int .u64 n, .slice A b c, .slice A' b' c'])
/-- All but two blocks is as it was. -/
def Away (g h : Nat) (w W : World) : Prop := w.heap.size ≤ W.heap.size ∧ ∀ p : Addr, p.block < w.heap.size → p.block ≠ g → p.block ≠ h → W.cell? p = w.cell? p
theorem Away.refl (g h : Nat) (w : World) : Away g h w w := ⟨Nat.le_refl _, fun _ _ _ _ => rfl⟩
theorem Away.alloc {g h : Nat} {w W : World} (k : Away g h w W) (o : Obj) : Away g h w (W.alloc o) :=
  ⟨by have := k.1; simp; omega, fun p h1 h2 h3 => (((Below.refl W.heap.size W).alloc (Nat.le_refl _) o).cell (Nat.lt_of_lt_of_le h1 k.1)).trans (k.2 p h1 h2 h3)⟩
theorem Away.call {g h : Nat} {w W W' : World} (k : Away g h w W) (hb : Below W.heap.size W W') : Away g h w W' :=
  ⟨Nat.le_trans k.1 hb.size, fun p h1 h2 h3 => (hb.cell (Nat.lt_of_lt_of_le h1 k.1)).trans (k.2 p h1 h2 h3)⟩
theorem Away.set1 {g h : Nat} {w W : World} (k : Away g h w W) (i : Nat) (u : Value) : Away g h w (W.setCell ⟨g, i, none⟩ u) :=
  ⟨by have := k.1; simpa [World.setCell] using this, fun p h1 h2 h3 => (keep_set (w := W) (p := ⟨g, i, none⟩) (lo := p.block) (hi := p.block + 1) (by show g < p.block ∨ p.block + 1 ≤ g; omega) u p (Nat.le_refl _) (by omega)).trans (k.2 p h1 h2 h3)⟩
theorem Away.set2 {g h : Nat} {w W : World} (k : Away g h w W) (i : Nat) (u : Value) : Away g h w (W.setCell ⟨h, i, none⟩ u) :=
  ⟨by have := k.1; simpa [World.setCell] using this, fun p h1 h2 h3 => (keep_set (w := W) (p := ⟨h, i, none⟩) (lo := p.block) (hi := p.block + 1) (by show h < p.block ∨ p.block + 1 ≤ h; omega) u p (Nat.le_refl _) (by omega)).trans (k.2 p h1 h2 h3)⟩
/-- What As left is still there. -/
theorem Away.ans {g h B : Nat} {w0 w W : World} {x : Itm} {v : Value} (k : Away g h w W) (hA : Ans w0 w B x v) (hB : B ≤ w.heap.size) (hg : B ≤ g) (hh : B ≤ h) (hg' : g < w0.heap.size ∨ w.heap.size ≤ g) (hh' : h < w0.heap.size ∨ w.heap.size ≤ h) : ItemV W 0 W.heap.size x v := by
  refine (hA W fun p hp => k.2 p ?_ ?_ ?_).more (Nat.le_refl _) k.1
  · rcases hp with h | h
    · omega
    · exact h.2
  · rcases hp with h | h <;> omega
  · rcases hp with h | h <;> omega

theorem Away.s1 {g h : Nat} {w W : World} (k : Away g h w W) (x y z u : Value) : Away g h w ((((W.setCell ⟨g, 0, none⟩ x).setCell ⟨g, 1, none⟩ y).setCell ⟨g, 2, none⟩ z).setCell ⟨g, 3, none⟩ u) := (((k.set1 0 x).set1 1 y).set1 2 z).set1 3 u
theorem Away.s2 {g h : Nat} {w W : World} (k : Away g h w W) (x y z u : Value) : Away g h w ((((W.setCell ⟨h, 0, none⟩ x).setCell ⟨h, 1, none⟩ y).setCell ⟨h, 2, none⟩ z).setCell ⟨h, 3, none⟩ u) := (((k.set2 0 x).set2 1 y).set2 2 z).set2 3 u
def Cells (w : World) (g : Nat) (a b c d : Value) : Prop := w.cell? ⟨g, 0, none⟩ = some a ∧ w.cell? ⟨g, 1, none⟩ = some b ∧ w.cell? ⟨g, 2, none⟩ = some c ∧ w.cell? ⟨g, 3, none⟩ = some d
theorem blk_s {w : World} {g : Nat} {t : TypeId} {a b c d : Value} (h : Blk w g t #[a, b, c, d]) (x y z u : Value) : Blk ((((w.setCell ⟨g, 0, none⟩ x).setCell ⟨g, 1, none⟩ y).setCell ⟨g, 2, none⟩ z).setCell ⟨g, 3, none⟩ u) g t #[x, y, z, u] := by
  simpa using (((h.set_ 0 x).set_ 1 y).set_ 2 z).set_ 3 u
theorem blk_f {w : World} {g h : Nat} {t : TypeId} {cs : Array Value} (k : Blk w g t cs) (hn : g ≠ h) (x y z u : Value) : Blk ((((w.setCell ⟨h, 0, none⟩ x).setCell ⟨h, 1, none⟩ y).setCell ⟨h, 2, none⟩ z).setCell ⟨h, 3, none⟩ u) g t cs :=
  (((k.far (p := ⟨h, 0, none⟩) hn x).far (p := ⟨h, 1, none⟩) hn y).far (p := ⟨h, 2, none⟩) hn z).far (p := ⟨h, 3, none⟩) hn u
theorem c1a (w : World) (t : TypeId) (o : Obj) (x y z u : Value) : Cells ((w.alloc (.cells #[x, y, z, u] t)).alloc o) w.heap.size x y z u := cells4 ((Blk.new w t #[x, y, z, u]).alloc o)
theorem c1b (w : World) (t : TypeId) (o : Obj) (x y z u : Value) : Cells ((w.alloc o).alloc (.cells #[x, y, z, u] t)) (w.heap.size + 1) x y z u := by
  have h := Blk.new (w.alloc o) t #[x, y, z, u]
  rw [World.size_alloc] at h
  exact cells4 h
theorem c2a {w : World} {g : Nat} {t : TypeId} {a b c d : Value} (h : Blk w g t #[a, b, c, d]) (o : Obj) (x y z u : Value) : Cells (((((w.setCell ⟨g, 0, none⟩ x).setCell ⟨g, 1, none⟩ y).setCell ⟨g, 2, none⟩ z).setCell ⟨g, 3, none⟩ u).alloc o) g x y z u := cells4 ((blk_s h x y z u).alloc o)
theorem c2b (w : World) (g : Nat) (t : TypeId) (a b c d x y z u : Value) : Cells (((((w.setCell ⟨g, 0, none⟩ a).setCell ⟨g, 1, none⟩ b).setCell ⟨g, 2, none⟩ c).setCell ⟨g, 3, none⟩ d).alloc (.cells #[x, y, z, u] t)) w.heap.size x y z u := by
  have h := Blk.new ((((w.setCell ⟨g, 0, none⟩ a).setCell ⟨g, 1, none⟩ b).setCell ⟨g, 2, none⟩ c).setCell ⟨g, 3, none⟩ d) t #[x, y, z, u]
  have hz : ((((w.setCell ⟨g, 0, none⟩ a).setCell ⟨g, 1, none⟩ b).setCell ⟨g, 2, none⟩ c).setCell ⟨g, 3, none⟩ d).heap.size = w.heap.size := by simp [World.setCell]
  rw [hz] at h
  exact cells4 h
theorem c3a {w : World} {g k : Nat} {t : TypeId} {a b c d : Value} (h : Blk w g t #[a, b, c, d]) (hn : g ≠ k) (x y z u x' y' z' u' : Value) : Cells ((((((((w.setCell ⟨g, 0, none⟩ x).setCell ⟨g, 1, none⟩ y).setCell ⟨g, 2, none⟩ z).setCell ⟨g, 3, none⟩ u).setCell ⟨k, 0, none⟩ x').setCell ⟨k, 1, none⟩ y').setCell ⟨k, 2, none⟩ z').setCell ⟨k, 3, none⟩ u') g x y z u := cells4 (blk_f (blk_s h x y z u) hn x' y' z' u')
theorem c3b {w : World} {g k : Nat} {t : TypeId} {a b c d : Value} (h : Blk w k t #[a, b, c, d]) (hn : k ≠ g) (x y z u x' y' z' u' : Value) : Cells ((((((((w.setCell ⟨g, 0, none⟩ x).setCell ⟨g, 1, none⟩ y).setCell ⟨g, 2, none⟩ z).setCell ⟨g, 3, none⟩ u).setCell ⟨k, 0, none⟩ x').setCell ⟨k, 1, none⟩ y').setCell ⟨k, 2, none⟩ z').setCell ⟨k, 3, none⟩ u') k x' y' z' u' := cells4 (blk_s (blk_f h hn x y z u) x' y' z' u')
theorem laid_of {W w w0 : World} {B g h n : Nat} {x : Itm} {k m : Int} {A : Option Addr} {b c : Nat} {A' : Option Addr} {b' c' : Nat} (hn : n = g ∨ n = h) (hc : Cells W n (.int .i64 k) (.int .u64 m) (.slice A b c) (.slice A' b' c')) (hl : n < W.heap.size) (ha : Away g h w W) (hA : Ans w0 w B x (.agg #[.int .i64 k, .int .u64 m, .slice A b c, .slice A' b' c']))
    (hB : B ≤ w.heap.size) (hg : B ≤ g) (hh : B ≤ h) (hg' : g < w0.heap.size ∨ w.heap.size ≤ g) (hh' : h < w0.heap.size ∨ w.heap.size ≤ h) : Laid W n x :=
  ⟨hl, k, m, A, b, c, A', b', c', hc, ha.ans hA hB hg hh hg' hh'⟩

theorem fin_ {x y : Itm} {w2 wx : World} {n5 n6 : Nat} (h1 : Laid wx n5 x) (h2 : Laid wx n6 y) (h3 : Below w2.heap.size w2 wx) : ∃ m5 m6 : Nat, Value.pointer (some ⟨n5, 0, none⟩) = .pointer (some ⟨m5, 0, none⟩) ∧ Value.pointer (some ⟨n6, 0, none⟩) = .pointer (some ⟨m6, 0, none⟩) ∧ Hid (Laid wx m5 x) ∧ Hid (Laid wx m6 y) ∧ Hid (Below w2.heap.size w2 wx) :=
  ⟨n5, n6, rfl, rfl, Lib.hid h1, Lib.hid h2, Lib.hid h3⟩
theorem laid5 {W w w0 : World} {B g h : Nat} {x : Itm} {k m : Int} {A : Option Addr} {b c : Nat} {A' : Option Addr} {b' c' : Nat} (hc : Cells W g (.int .i64 k) (.int .u64 m) (.slice A b c) (.slice A' b' c')) (hl : g < W.heap.size) (ha : Away g h w W) (hA : Ans w0 w B x (.agg #[.int .i64 k, .int .u64 m, .slice A b c, .slice A' b' c']))
    (hB : B ≤ w.heap.size) (hg : B ≤ g) (hh : B ≤ h) (hg' : g < w0.heap.size ∨ w.heap.size ≤ g) (hh' : h < w0.heap.size ∨ w.heap.size ≤ h) : Laid W g x := laid_of (.inl rfl) hc hl ha hA hB hg hh hg' hh'
theorem laid6 {W w w0 : World} {B g h : Nat} {x : Itm} {k m : Int} {A : Option Addr} {b c : Nat} {A' : Option Addr} {b' c' : Nat} (hc : Cells W h (.int .i64 k) (.int .u64 m) (.slice A b c) (.slice A' b' c')) (hl : h < W.heap.size) (ha : Away g h w W) (hA : Ans w0 w B x (.agg #[.int .i64 k, .int .u64 m, .slice A b c, .slice A' b' c']))
    (hB : B ≤ w.heap.size) (hg : B ≤ g) (hh : B ≤ h) (hg' : g < w0.heap.size ∨ w.heap.size ≤ g) (hh' : h < w0.heap.size ∨ w.heap.size ≤ h) : Laid W h x := laid_of (.inr rfl) hc hl ha hA hB hg hh hg' hh'

theorem both {x y : Itm} {w2 wx w3 w4 wa wb : World} {B n5 n6 : Nat} {k m : Int} {A : Option Addr} {b c : Nat} {A' : Option Addr} {b' c' : Nat} {k2 m2 : Int} {A2 : Option Addr} {b2 c2 : Nat} {A2' : Option Addr} {b2' c2' : Nat}
    (h3 : Below w2.heap.size w2 wx) (a3 : Away n5 n6 w3 wx) (a4 : Away n5 n6 w4 wx) (c5 : Cells wx n5 (.int .i64 k) (.int .u64 m) (.slice A b c) (.slice A' b' c')) (c6 : Cells wx n6 (.int .i64 k2) (.int .u64 m2) (.slice A2 b2 c2) (.slice A2' b2' c2'))
    (l5 : n5 < wx.heap.size) (l6 : n6 < wx.heap.size) (hA : Ans wa w3 B x (.agg #[.int .i64 k, .int .u64 m, .slice A b c, .slice A' b' c'])) (hA2 : Ans wb w4 B y (.agg #[.int .i64 k2, .int .u64 m2, .slice A2 b2 c2, .slice A2' b2' c2']))
    (e1 : B ≤ w3.heap.size) (e2 : B ≤ w4.heap.size) (e3 : B ≤ n5) (e4 : B ≤ n6) (s1 : n5 < wa.heap.size ∨ w3.heap.size ≤ n5) (s2 : n6 < wa.heap.size ∨ w3.heap.size ≤ n6) (s3 : n5 < wb.heap.size ∨ w4.heap.size ≤ n5) (s4 : n6 < wb.heap.size ∨ w4.heap.size ≤ n6) :
    ∃ m5 m6 : Nat, Value.pointer (some ⟨n5, 0, none⟩) = .pointer (some ⟨m5, 0, none⟩) ∧ Value.pointer (some ⟨n6, 0, none⟩) = .pointer (some ⟨m6, 0, none⟩) ∧ Hid (Laid wx m5 x) ∧ Hid (Laid wx m6 y) ∧ Hid (Below w2.heap.size w2 wx) :=
  fin_ (laid5 c5 l5 a3 hA e1 e3 e4 s1 s2) (laid6 c6 l6 a4 hA2 e2 e3 e4 s3 s4) h3

theorem Laid.below {w w' : World} {g : Nat} {x : Itm} (h : Laid w g x) (hb : Below w.heap.size w w') : Laid w' g x := by
  obtain ⟨hl, k, n, A, b, c, A', b', c', ⟨h0, h1, h2, h3⟩, hi⟩ := h
  exact ⟨Nat.lt_of_lt_of_le hl hb.size, k, n, A, b, c, A', b', c', ⟨(hb.cell (p := ⟨g, 0, none⟩) hl).trans h0, (hb.cell (p := ⟨g, 1, none⟩) hl).trans h1, (hb.cell (p := ⟨g, 2, none⟩) hl).trans h2, (hb.cell (p := ⟨g, 3, none⟩) hl).trans h3⟩, (hi.below hb).more (Nat.le_refl _) hb.size⟩
theorem Cells.below {w w' : World} {B g : Nat} {a b c d : Value} (h : Cells w g a b c d) (hg : g < B) (hb : Below B w w') : Cells w' g a b c d :=
  ⟨(hb.cell (p := ⟨g, 0, none⟩) hg).trans h.1, (hb.cell (p := ⟨g, 1, none⟩) hg).trans h.2.1, (hb.cell (p := ⟨g, 2, none⟩) hg).trans h.2.2.1, (hb.cell (p := ⟨g, 3, none⟩) hg).trans h.2.2.2⟩

theorem B4s {B g : Nat} {a w : World} (h : Below B a w) (hg : B ≤ g) (x y z u : Value) : Below B a ((((w.setCell ⟨g, 0, none⟩ x).setCell ⟨g, 1, none⟩ y).setCell ⟨g, 2, none⟩ z).setCell ⟨g, 3, none⟩ u) :=
  (((h.setCell (p := ⟨g, 0, none⟩) hg _).setCell (p := ⟨g, 1, none⟩) hg _).setCell (p := ⟨g, 2, none⟩) hg _).setCell (p := ⟨g, 3, none⟩) hg _

set_option maxRecDepth 100000 in
set_option maxHeartbeats 4000000 in
theorem walk (x y : Itm) (v u : Value) (W : World) (hv : ItemV W 0 W.heap.size x v) (hu : ItemV W 0 W.heap.size y u) (hT : Tabs W) :
    Calls Tryd.prog 3 #[v, u] W fun e W' => e = .returned (.bool true) ∧ Below W.heap.size W W' := by
  have hsane := hv.sane
  obtain ⟨A1, c1, A2, c2, rfl, -⟩ := hv.open_
  obtain ⟨D1, d1, D2, d2, rfl, -⟩ := hu.open_
  have hb0 := ((Below.refl W.heap.size W).alloc (Nat.le_refl _) (.cells #[.int .i64 x.kind, .int .u64 x.num, .slice A1 x.bs.length c1, .slice A2 x.sub.length c2] 26)).alloc (by simp) (.cells #[.int .i64 y.kind, .int .u64 y.num, .slice D1 y.bs.length d1, .slice D2 y.sub.length d2] 26)
  have HV := Lib.hid (hv.below hb0)
  have HU := Lib.hid (hu.below hb0)
  have HK := Lib.hid ((Blk.new W 26 #[.int .i64 x.kind, .int .u64 x.num, .slice A1 x.bs.length c1, .slice A2 x.sub.length c2]).alloc (.cells #[.int .i64 y.kind, .int .u64 y.num, .slice D1 y.bs.length d1, .slice D2 y.sub.length d2] 26))
  have HJ := Lib.hid (Blk.new (W.alloc (.cells #[.int .i64 x.kind, .int .u64 x.num, .slice A1 x.bs.length c1, .slice A2 x.sub.length c2] 26)) 26 #[.int .i64 y.kind, .int .u64 y.num, .slice D1 y.bs.length d1, .slice D2 y.sub.length d2])
  simp only [World.size_alloc] at HJ
  have HB0 := Lib.hid hb0
  have HT0 := Lib.hid (hT.below hb0 (Nat.le_refl _))
  have HSN := Lib.hid hsane
  clear hv hu hb0 hT hsane
  go_enter Tryd.func3, Tryd.ntmps3
  go_wp2_with fail
  have hz0 : ((W.alloc (.cells #[.int .i64 x.kind, .int .u64 x.num, .slice A1 x.bs.length c1, .slice A2 x.sub.length c2] 26)).alloc (.cells #[.int .i64 y.kind, .int .u64 y.num, .slice D1 y.bs.length d1, .slice D2 y.sub.length d2] 26)).heap.size = W.heap.size + 1 + 1 := by simp
  generalize (W.alloc (.cells #[.int .i64 x.kind, .int .u64 x.num, .slice A1 x.bs.length c1, .slice A2 x.sub.length c2] 26)).alloc (.cells #[.int .i64 y.kind, .int .u64 y.num, .slice D1 y.bs.length d1, .slice D2 y.sub.length d2] 26) = W0 at *
  have hzl := Nat.le_of_eq hz0
  have hzg := Nat.le_of_eq hz0.symm
  clear hz0
  refine (great_any x _ W0 (HV.out.more (Nat.le_refl _) (by omega))).mono ?_
  rintro e w1 ⟨rfl, hb1⟩
  have HV1 := Lib.hid (HV.out.below (hb1.mono (by omega)))
  have HU1 := Lib.hid (HU.out.below (hb1.mono (by omega)))
  have HK1 := Lib.hid (HK.out.next hb1)
  have HJ1 := Lib.hid (HJ.out.next hb1)
  have HB1 := Lib.hid (below_next HB0.out (by omega) hb1)
  have HT1 := Lib.hid (HT0.out.below hb1 (Nat.le_refl _))
  have hz1 : W.heap.size + 1 < w1.heap.size := HJ1.out.lt
  clear hb1 HV HU HK HJ HB0 HT0 hzl hzg
  by_cases hg : grt x 1 400 < 0
  · rw [show decide (grt x 1 400 < 0) = true from decide_eq_true hg]
    clear hg
    go_wp2_with fail
    refine (alive_any w1 HT1.out).mono ?_
    rintro e w2 ⟨rfl, hb2⟩
    have HB2 := Lib.hid (below_next HB1.out (by omega) hb2)
    clear hb2
    go_wp2_with fail
    go_ret
    exact ⟨rfl, HB2.out⟩
  · rw [show decide (grt x 1 400 < 0) = false from decide_eq_false hg]
    have hok := grt_ok x 1 400 (by omega) (by omega) (by omega)
    have hle : (enc x).length ≤ 1203600 := by
      have := hok.1
      have := hok.2.2
      omega
    have hsz : size x ≤ 400 := by have := hok.1; omega
    have hdp : deep x ≤ 9 := by have := hok.2.1; omega
    clear hok hg
    obtain ⟨j0, j1, j2, j3⟩ := cells4 HJ1.out
    go_wp2_with fail
    clear j0 j1 j2 j3
    refine (great_any y _ w1 (HU1.out.more (Nat.le_refl _) (by omega))).mono ?_
    rintro e w2 ⟨rfl, hb2⟩
    have HV2 := Lib.hid (HV1.out.below (hb2.mono (by omega)))
    have HU2 := Lib.hid (HU1.out.below (hb2.mono (by omega)))
    have HK2 := Lib.hid (HK1.out.next hb2)
    have HJ2 := Lib.hid (HJ1.out.next hb2)
    have HB2 := Lib.hid (below_next HB1.out (by omega) hb2)
    have HT2 := Lib.hid (HT1.out.below hb2 (Nat.le_refl _))
    have hz2 : W.heap.size + 1 < w2.heap.size := HJ2.out.lt
    clear hb2 HV1 HU1 HK1 HJ1 HB1 HT1 hz1
    by_cases hg : grt y 1 400 < 0
    · rw [show decide (grt y 1 400 < 0) = true from decide_eq_true hg]
      clear hg
      go_wp2_with fail
      refine (alive_any w2 HT2.out).mono ?_
      rintro e w3 ⟨rfl, hb3⟩
      have HB3 := Lib.hid (below_next HB2.out (by omega) hb3)
      clear hb3
      go_wp2_with fail
      go_ret
      exact ⟨rfl, HB3.out⟩
    · rw [show decide (grt y 1 400 < 0) = false from decide_eq_false hg]
      have hok := grt_ok y 1 400 (by omega) (by omega) (by omega)
      have hszy : size y ≤ 400 := by have := hok.1; omega
      have hdpy : deep y ≤ 9 := by have := hok.2.1; omega
      clear hok hg
      go_upto_region 3 with (fail)
      go_cut [5, 6] from 16 to 19 (fun p5 p6 wx => ∃ n5 n6 : Nat, p5 = .pointer (some ⟨n5, 0, none⟩) ∧ p6 = .pointer (some ⟨n6, 0, none⟩) ∧ Hid (Laid wx n5 x) ∧ Hid (Laid wx n6 y) ∧ Hid (Below w2.heap.size w2 wx))
      case first =>
        have KC := Lib.hid (fun (W' : World) (hW : Below w2.heap.size w2 W') => And.intro (cells4 (HK2.out.below hW HK2.out.lt)) (cells4 (HJ2.out.below hW HJ2.out.lt)))
        have CA1 := Lib.hid (fun (W' : World) (hW : Below w2.heap.size w2 W') => as_rec (deep x) x _ W.heap.size 10 W' (Nat.le_refl _) (HV2.out.below (hW.mono (by omega))) (by have := hW.size; omega) (by omega) (by omega) (by omega))
        have CA2 := Lib.hid (fun (W' : World) (hW : Below w2.heap.size w2 W') => as_rec (deep y) y _ W.heap.size 10 W' (Nat.le_refl _) (HU2.out.below (hW.mono (by omega))) (by have := hW.size; omega) (by omega) (by omega) (by omega))
        have HBd0 := Lib.hid ((Below.refl w2.heap.size w2).drew)
        have HBd1 := Lib.hid (((Below.refl w2.heap.size w2).alloc (Nat.le_refl _) (.cells #[.int .i64 0, .int .u64 0, .slice none 0 0, .slice none 0 0] 31)).drew)
        have HBd2 := Lib.hid ((((Below.refl w2.heap.size w2).alloc (Nat.le_refl _) (.cells #[.int .i64 0, .int .u64 0, .slice none 0 0, .slice none 0 0] 31)).alloc (by simp) (.cells #[.int .i64 0, .int .u64 0, .slice none 0 0, .slice none 0 0] 31)).drew)
        have NW : Hid (∀ w : World, Blk ((w.alloc (.cells #[.int .i64 0, .int .u64 0, .slice none 0 0, .slice none 0 0] 31)).alloc (.cells #[.int .i64 0, .int .u64 0, .slice none 0 0, .slice none 0 0] 31)) (w.heap.size + 1) 31 #[.int .i64 0, .int .u64 0, .slice none 0 0, .slice none 0 0]) := Lib.hid (fun w => by simpa using Blk.new (w.alloc (.cells #[.int .i64 0, .int .u64 0, .slice none 0 0, .slice none 0 0] 31)) 31 #[.int .i64 0, .int .u64 0, .slice none 0 0, .slice none 0 0])
        have HE1 := Lib.hid ((Blk.new w2 31 #[.int .i64 0, .int .u64 0, .slice none 0 0, .slice none 0 0]).drew)
        have HE2 := Lib.hid (((Blk.new w2 31 #[.int .i64 0, .int .u64 0, .slice none 0 0, .slice none 0 0]).alloc (.cells #[.int .i64 0, .int .u64 0, .slice none 0 0, .slice none 0 0] 31)).drew)
        have HE3 := Lib.hid ((NW.out w2).drew)
        have hzz : W.heap.size < w2.heap.size := by omega
        go_region_held3 (fun w' => (w'.cell? ⟨W.heap.size, 0, none⟩ = some (.int .i64 x.kind) ∧ w'.cell? ⟨W.heap.size, 1, none⟩ = some (.int .u64 x.num) ∧ w'.cell? ⟨W.heap.size, 2, none⟩ = some (.slice A1 x.bs.length c1) ∧ w'.cell? ⟨W.heap.size, 3, none⟩ = some (.slice A2 x.sub.length c2)) ∧ (w'.cell? ⟨W.heap.size + 1, 0, none⟩ = some (.int .i64 y.kind) ∧ w'.cell? ⟨W.heap.size + 1, 1, none⟩ = some (.int .u64 y.num) ∧ w'.cell? ⟨W.heap.size + 1, 2, none⟩ = some (.slice D1 y.bs.length d1) ∧ w'.cell? ⟨W.heap.size + 1, 3, none⟩ = some (.slice D2 y.sub.length d2)))
          (first | with_reducible exact KC.out _ HBd0.out | with_reducible exact KC.out _ HBd1.out | with_reducible exact KC.out _ HBd2.out | with_reducible exact KC.out _ HB4.out | with_reducible exact KC.out _ HB3.out | with_reducible exact KC.out _ (HB3.out.alloc HB3.out.size _) | with_reducible exact KC.out _ ((HB3.out.alloc HB3.out.size _).alloc (HB3.out.alloc HB3.out.size _).size _) | with_reducible exact KC.out _ (HB4.out.alloc HB4.out.size _) | with_reducible exact KC.out _ ((HB4.out.alloc HB4.out.size _).alloc (HB4.out.alloc HB4.out.size _).size _) | with_reducible exact KC.out _ (B4s HB4.out (by omega) _ _ _ _) | with_reducible exact KC.out _ ((B4s HB4.out (by omega) _ _ _ _).alloc (B4s HB4.out (by omega) _ _ _ _).size _) | with_reducible exact KC.out _ (B4s (B4s HB4.out (by omega) _ _ _ _) (by omega) _ _ _ _) | fail)
          (first | (go_at_call 14; first | ((refine (CA2.out _ HB3.out).mono ?_); rintro e w4 ⟨v4, rfl, HA4, hb4⟩; obtain ⟨k4, n4, A4, b4, c4, A4', b4', c4', rfl⟩ := ItemV_four HA4.out.self; have HX4 := Lib.hid hb4; have HB4 := Lib.hid (below_next HB3.out HB3.out.size hb4); have hs4 := HB4.out.size; (try (have HG1 := Lib.hid (HF1.out.next hb4); obtain ⟨⟨h0, h1, h2, h3⟩, h4, h5, h6, h7⟩ := Four.of HG1.out; have lHG1 := HG1.out.lt)); (try (have HG2 := Lib.hid (HF2.out.next hb4); obtain ⟨⟨i0, i1, i2, i3⟩, i4, i5, i6, i7⟩ := Four.of HG2.out; have lHG2 := HG2.out.lt)); clear hb4) | ((refine (CA2.out _ (HB3.out.alloc HB3.out.size (.cells #[.int .i64 0, .int .u64 0, .slice none 0 0, .slice none 0 0] 31))).mono ?_); rintro e w4 ⟨v4, rfl, HA4, hb4⟩; obtain ⟨k4, n4, A4, b4, c4, A4', b4', c4', rfl⟩ := ItemV_four HA4.out.self; have HX4 := Lib.hid hb4; have HB4 := Lib.hid (below_next (HB3.out.alloc HB3.out.size (.cells #[.int .i64 0, .int .u64 0, .slice none 0 0, .slice none 0 0] 31)) (HB3.out.alloc HB3.out.size (.cells #[.int .i64 0, .int .u64 0, .slice none 0 0, .slice none 0 0] 31)).size hb4); have hs4 := HB4.out.size; (try (have HG1 := Lib.hid ((HF1.out.alloc (.cells #[.int .i64 0, .int .u64 0, .slice none 0 0, .slice none 0 0] 31)).next hb4); obtain ⟨⟨h0, h1, h2, h3⟩, h4, h5, h6, h7⟩ := Four.of HG1.out; have lHG1 := HG1.out.lt)); have HG3 := Lib.hid ((Blk.new w3 31 #[.int .i64 0, .int .u64 0, .slice none 0 0, .slice none 0 0]).next hb4); obtain ⟨⟨l0, l1, l2, l3⟩, l4, l5, l6, l7⟩ := Four.of HG3.out; have lHG3 := HG3.out.lt; clear hb4) | ((refine (CA2.out _ ((HB3.out.alloc HB3.out.size (.cells #[.int .i64 0, .int .u64 0, .slice none 0 0, .slice none 0 0] 31)).alloc (HB3.out.alloc HB3.out.size (.cells #[.int .i64 0, .int .u64 0, .slice none 0 0, .slice none 0 0] 31)).size (.cells #[.int .i64 0, .int .u64 0, .slice none 0 0, .slice none 0 0] 31))).mono ?_); rintro e w4 ⟨v4, rfl, HA4, hb4⟩; obtain ⟨k4, n4, A4, b4, c4, A4', b4', c4', rfl⟩ := ItemV_four HA4.out.self; have HX4 := Lib.hid hb4; have HB4 := Lib.hid (below_next ((HB3.out.alloc HB3.out.size (.cells #[.int .i64 0, .int .u64 0, .slice none 0 0, .slice none 0 0] 31)).alloc (HB3.out.alloc HB3.out.size (.cells #[.int .i64 0, .int .u64 0, .slice none 0 0, .slice none 0 0] 31)).size (.cells #[.int .i64 0, .int .u64 0, .slice none 0 0, .slice none 0 0] 31)) ((HB3.out.alloc HB3.out.size (.cells #[.int .i64 0, .int .u64 0, .slice none 0 0, .slice none 0 0] 31)).alloc (HB3.out.alloc HB3.out.size (.cells #[.int .i64 0, .int .u64 0, .slice none 0 0, .slice none 0 0] 31)).size (.cells #[.int .i64 0, .int .u64 0, .slice none 0 0, .slice none 0 0] 31)).size hb4); have hs4 := HB4.out.size; have HG3 := Lib.hid (((Blk.new w3 31 #[.int .i64 0, .int .u64 0, .slice none 0 0, .slice none 0 0]).alloc (.cells #[.int .i64 0, .int .u64 0, .slice none 0 0, .slice none 0 0] 31)).next hb4); obtain ⟨⟨l0, l1, l2, l3⟩, l4, l5, l6, l7⟩ := Four.of HG3.out; have lHG3 := HG3.out.lt; have HG4 := Lib.hid ((NW.out w3).next hb4); obtain ⟨⟨m0, m1, m2, m3⟩, m4, m5, m6, m7⟩ := Four.of HG4.out; have lHG4 := HG4.out.lt; clear hb4) | ((refine (CA1.out _ HBd0.out).mono ?_); rintro e w3 ⟨v3, rfl, HA3, hb3⟩; obtain ⟨k3, n3, A3, b3, c3, A3', b3', c3', rfl⟩ := ItemV_four HA3.out.self; have HX3 := Lib.hid hb3; have HB3 := Lib.hid (below_next HBd0.out HBd0.out.size hb3); have hs3 := HB3.out.size; clear hb3) | ((refine (CA1.out _ HBd1.out).mono ?_); rintro e w3 ⟨v3, rfl, HA3, hb3⟩; obtain ⟨k3, n3, A3, b3, c3, A3', b3', c3', rfl⟩ := ItemV_four HA3.out.self; have HX3 := Lib.hid hb3; have HB3 := Lib.hid (below_next HBd1.out HBd1.out.size hb3); have hs3 := HB3.out.size; have HF1 := Lib.hid (HE1.out.next hb3); obtain ⟨⟨f0, f1, f2, f3⟩, f4, f5, f6, f7⟩ := Four.of HF1.out; have lHF1 := HF1.out.lt; clear hb3) | ((refine (CA1.out _ HBd2.out).mono ?_); rintro e w3 ⟨v3, rfl, HA3, hb3⟩; obtain ⟨k3, n3, A3, b3, c3, A3', b3', c3', rfl⟩ := ItemV_four HA3.out.self; have HX3 := Lib.hid hb3; have HB3 := Lib.hid (below_next HBd2.out HBd2.out.size hb3); have hs3 := HB3.out.size; have HF1 := Lib.hid (HE2.out.next hb3); obtain ⟨⟨f0, f1, f2, f3⟩, f4, f5, f6, f7⟩ := Four.of HF1.out; have lHF1 := HF1.out.lt; have HF2 := Lib.hid (HE3.out.next hb3); obtain ⟨⟨g0, g1, g2, g3⟩, g4, g5, g6, g7⟩ := Four.of HF2.out; have lHF2 := HF2.out.lt; clear hb3)) | fail)
        all_goals
          go_wp2_with fail
          go_meet
          have a34 : ∀ g h, Away g h w3 w4 := fun g h => by first | with_reducible exact Away.call (Away.refl g h w3) HX4.out | with_reducible exact Away.call ((Away.refl g h w3).alloc _) HX4.out | with_reducible exact Away.call (((Away.refl g h w3).alloc _).alloc _) HX4.out
          have h34 := (a34 0 0).1
          refine both ?_ ?_ ?_ ?_ ?_ ?_ ?_ HA3.out HA4.out (by omega) (by omega) (by omega) (by omega) ?_ ?_ ?_ ?_
          · (first | with_reducible exact (HB4.out.alloc HB4.out.size _).alloc (HB4.out.alloc HB4.out.size _).size _ | with_reducible exact (B4s HB4.out (by omega) _ _ _ _).alloc (B4s HB4.out (by omega) _ _ _ _).size _ | with_reducible exact B4s (B4s HB4.out (by omega) _ _ _ _) (by omega) _ _ _ _)
          · first | with_reducible exact ((a34 _ _).alloc _).alloc _ | with_reducible exact ((a34 _ _).s1 _ _ _ _).alloc _ | with_reducible exact ((a34 _ _).s2 _ _ _ _).alloc _ | with_reducible exact ((a34 _ _).s1 _ _ _ _).s2 _ _ _ _
          · first | with_reducible exact ((Away.refl _ _ w4).alloc _).alloc _ | with_reducible exact ((Away.refl _ _ w4).s1 _ _ _ _).alloc _ | with_reducible exact ((Away.refl _ _ w4).s2 _ _ _ _).alloc _ | with_reducible exact ((Away.refl _ _ w4).s1 _ _ _ _).s2 _ _ _ _
          · (first | with_reducible exact c1a _ _ _ _ _ _ _ | with_reducible exact c1b _ _ _ _ _ _ _ | with_reducible exact c2b _ _ _ _ _ _ _ _ _ _ _ | with_reducible exact c2a HG1.out _ _ _ _ _ | with_reducible exact c2a HG2.out _ _ _ _ _ | with_reducible exact c2a HG3.out _ _ _ _ _ | with_reducible exact c2a HG4.out _ _ _ _ _ | with_reducible exact c3a HG1.out (by omega) _ _ _ _ _ _ _ _ | with_reducible exact c3a HG2.out (by omega) _ _ _ _ _ _ _ _ | with_reducible exact c3a HG3.out (by omega) _ _ _ _ _ _ _ _ | with_reducible exact c3a HG4.out (by omega) _ _ _ _ _ _ _ _ | with_reducible exact c3b HG1.out (by omega) _ _ _ _ _ _ _ _ | with_reducible exact c3b HG2.out (by omega) _ _ _ _ _ _ _ _ | with_reducible exact c3b HG3.out (by omega) _ _ _ _ _ _ _ _ | with_reducible exact c3b HG4.out (by omega) _ _ _ _ _ _ _ _)
          · (first | with_reducible exact c1a _ _ _ _ _ _ _ | with_reducible exact c1b _ _ _ _ _ _ _ | with_reducible exact c2b _ _ _ _ _ _ _ _ _ _ _ | with_reducible exact c2a HG1.out _ _ _ _ _ | with_reducible exact c2a HG2.out _ _ _ _ _ | with_reducible exact c2a HG3.out _ _ _ _ _ | with_reducible exact c2a HG4.out _ _ _ _ _ | with_reducible exact c3a HG1.out (by omega) _ _ _ _ _ _ _ _ | with_reducible exact c3a HG2.out (by omega) _ _ _ _ _ _ _ _ | with_reducible exact c3a HG3.out (by omega) _ _ _ _ _ _ _ _ | with_reducible exact c3a HG4.out (by omega) _ _ _ _ _ _ _ _ | with_reducible exact c3b HG1.out (by omega) _ _ _ _ _ _ _ _ | with_reducible exact c3b HG2.out (by omega) _ _ _ _ _ _ _ _ | with_reducible exact c3b HG3.out (by omega) _ _ _ _ _ _ _ _ | with_reducible exact c3b HG4.out (by omega) _ _ _ _ _ _ _ _)
          · (first | (simp [World.setCell]; omega) | (simp [World.setCell]; done))
          · (first | (simp [World.setCell]; omega) | (simp [World.setCell]; done))
          · (first | (right; omega) | (left; omega) | (left; simp [World.drew]; omega) | (left; simp [World.drew]; done))
          · (first | (right; omega) | (left; omega) | (left; simp [World.drew]; omega) | (left; simp [World.drew]; done))
          · (first | (right; omega) | (left; omega) | (left; simp [World.drew]; omega) | (left; simp [World.drew]; done))
          · (first | (right; omega) | (left; omega) | (left; simp [World.drew]; omega) | (left; simp [World.drew]; done))
      case rest =>
        obtain ⟨n5, n6, rfl, rfl, HL5, HL6, HBc⟩ := hcut
        obtain ⟨hl5, k5, m5, A5, b5, c5, A5', b5', c5', hc5, hi5⟩ := HL5.out
        obtain ⟨hl6, k6, m6, A6, b6, c6, A6', b6', c6', hc6, hi6⟩ := HL6.out
        have HC5 : Hid (Cells wc n5 (.int .i64 k5) (.int .u64 m5) (.slice A5 b5 c5) (.slice A5' b5' c5')) := Lib.hid hc5
        have HC6 : Hid (Cells wc n6 (.int .i64 k6) (.int .u64 m6) (.slice A6 b6 c6) (.slice A6' b6' c6')) := Lib.hid hc6
        have HC5i := Lib.hid hi5
        have HC6i := Lib.hid hi6
        have hz2c : w2.heap.size ≤ wc.heap.size := HBc.out.size
        have HKc := Lib.hid (HK2.out.below HBc.out HK2.out.lt)
        have HJc := Lib.hid (HJ2.out.below HBc.out HJ2.out.lt)
        have HVc := Lib.hid (HV2.out.below (HBc.out.mono (by omega)))
        have HUc := Lib.hid (HU2.out.below (HBc.out.mono (by omega)))
        have HTc := Lib.hid (HT2.out.below HBc.out (Nat.le_refl _))
        have HBW := Lib.hid (below_next HB2.out (by omega) HBc.out)
        have hzc : W.heap.size ≤ wc.heap.size := HBW.out.size
        obtain ⟨q0, q1, q2, q3⟩ := cells4 HKc.out
        clear hc5 hc6 hi5 hi6 HL5 HL6 HK2 HJ2 HV2 HU2 HT2 HB2 HBc
        cases hr : right x
        · have HR := Lib.hid hr
          have CW := Lib.hid (write_no x _ W.heap.size wc HVc.out (by omega) HTc.out hr)
          clear hr
          go_wp2_with fail
          refine CW.out.mono ?_
          rintro e w3 ⟨rfl, hb3⟩
          have HKb := Lib.hid (HKc.out.below hb3 HKc.out.lt)
          have HJb := Lib.hid (HJc.out.below hb3 HJc.out.lt)
          have HVb := Lib.hid (HVc.out.below (hb3.mono (by omega)))
          have HUb := Lib.hid (HUc.out.below (hb3.mono (by omega)))
          have HTb := Lib.hid (HTc.out.below hb3 (Nat.le_refl _))
          have HBb := Lib.hid (below_next HBW.out hzc hb3)
          have HX5 := Lib.hid (HC5.out.below hl5 hb3)
          have HX6 := Lib.hid (HC6.out.below hl6 hb3)
          have HI5 := Lib.hid (HC5i.out.below hb3)
          have HI6 := Lib.hid (HC6i.out.below hb3)
          have hzb : wc.heap.size ≤ w3.heap.size := hb3.size
          clear hb3 q0 q1 q2 q3 CW
          have KC := Lib.hid (fun (W' : World) (hW : Below w3.heap.size w3 W') => show Cells W' W.heap.size (.int .i64 x.kind) (.int .u64 x.num) (.slice A1 x.bs.length c1) (.slice A2 x.sub.length c2) ∧ Cells W' (W.heap.size + 1) (.int .i64 y.kind) (.int .u64 y.num) (.slice D1 y.bs.length d1) (.slice D2 y.sub.length d2) ∧ Cells W' n5 (.int .i64 k5) (.int .u64 m5) (.slice A5 b5 c5) (.slice A5' b5' c5') ∧ Cells W' n6 (.int .i64 k6) (.int .u64 m6) (.slice A6 b6 c6) (.slice A6' b6' c6') from
            ⟨cells4 (HKb.out.below hW HKb.out.lt), cells4 (HJb.out.below hW HJb.out.lt), HX5.out.below (by omega) hW, HX6.out.below (by omega) hW⟩)
          have CRi := Lib.hid (fun (W' : World) (hW : Below w3.heap.size w3 W') => right_any x _ W.heap.size W' (HVb.out.below (hW.mono (by omega))) (by have := hW.size; omega) (HTb.out.below hW (Nat.le_refl _)))
          have CRf := Lib.hid (fun (W' : World) (hW : Below w3.heap.size w3 W') => refRight_any x _ W' ((HI5.out.below (hW.mono hzb)).more (Nat.le_refl _) (by have := hW.size; omega)) (by omega))
          have CSm := Lib.hid (fun (W' : World) (hW : Below w3.heap.size w3 W') => sameTop_any x y _ _ W.heap.size W' (HVb.out.below (hW.mono (by omega))) (HUb.out.below (hW.mono (by omega))) (by have := hW.size; omega) (by omega) (by omega))
          have CRs := Lib.hid (fun (W' : World) (hW : Below w3.heap.size w3 W') => refSame_any (deep x) x y _ _ W' (Nat.le_refl _) ((HI5.out.below (hW.mono hzb)).more (Nat.le_refl _) (by have := hW.size; omega)) ((HI6.out.below (hW.mono hzb)).more (Nat.le_refl _) (by have := hW.size; omega)) (by omega) (by omega))
          have hss : (same x y != same x y) = false := by simp
          generalize hSS : same x y = ss at *
          have HBd := Lib.hid ((Below.refl w3.heap.size w3).drew)
          go_upto_region 5 with (fail)
          go_region_held3 (fun w' => (w'.cell? ⟨W.heap.size, 0, none⟩ = some (.int .i64 x.kind) ∧ w'.cell? ⟨W.heap.size, 1, none⟩ = some (.int .u64 x.num) ∧ w'.cell? ⟨W.heap.size, 2, none⟩ = some (.slice A1 x.bs.length c1) ∧ w'.cell? ⟨W.heap.size, 3, none⟩ = some (.slice A2 x.sub.length c2)) ∧ (w'.cell? ⟨W.heap.size + 1, 0, none⟩ = some (.int .i64 y.kind) ∧ w'.cell? ⟨W.heap.size + 1, 1, none⟩ = some (.int .u64 y.num) ∧ w'.cell? ⟨W.heap.size + 1, 2, none⟩ = some (.slice D1 y.bs.length d1) ∧ w'.cell? ⟨W.heap.size + 1, 3, none⟩ = some (.slice D2 y.sub.length d2)) ∧ (w'.cell? ⟨n5, 0, none⟩ = some (.int .i64 k5) ∧ w'.cell? ⟨n5, 1, none⟩ = some (.int .u64 m5) ∧ w'.cell? ⟨n5, 2, none⟩ = some (.slice A5 b5 c5) ∧ w'.cell? ⟨n5, 3, none⟩ = some (.slice A5' b5' c5')) ∧ (w'.cell? ⟨n6, 0, none⟩ = some (.int .i64 k6) ∧ w'.cell? ⟨n6, 1, none⟩ = some (.int .u64 m6) ∧ w'.cell? ⟨n6, 2, none⟩ = some (.slice A6 b6 c6) ∧ w'.cell? ⟨n6, 3, none⟩ = some (.slice A6' b6' c6')))
            (first | exact KC.out _ HBd.out | exact KC.out _ HB7.out | exact KC.out _ HB6.out | exact KC.out _ HB5.out | exact KC.out _ HB4.out | fail)
            (first | (go_at_call 16; (refine (CRi.out _ HBd.out).mono ?_); rintro e w4 ⟨rfl, hb4⟩; rw [HR.out]; have HB4 := Lib.hid (below_next HBd.out HBd.out.size hb4); clear hb4) | (go_at_call 17; (refine (CRf.out _ HB4.out).mono ?_); rintro e w5 ⟨rfl, hb5⟩; rw [HR.out]; have HB5 := Lib.hid (below_next HB4.out HB4.out.size hb5); clear hb5) | (go_at_call 18; (refine (CSm.out _ HB5.out).mono ?_); rintro e w6 ⟨rfl, hb6⟩; have HB6 := Lib.hid (below_next HB5.out HB5.out.size hb6); clear hb6) | (go_at_call 19; (refine (CRs.out _ HB6.out).mono ?_); rintro e w7 ⟨rfl, hb7⟩; have HB7 := Lib.hid (below_next HB6.out HB6.out.size hb7); clear hb7) | fail)
          clear HB6 HB5 HB4 CRi CSm CRs
          obtain ⟨-, -, ⟨r0, r1, r2, r3⟩, -⟩ := KC.out _ HB7.out
          have CRf7 := Lib.hid (CRf.out _ HB7.out)
          have hz7 := HB7.out.size
          clear CRf
          go_wp2_with fail
          refine CRf7.out.mono ?_
          rintro e w8 ⟨rfl, hb8⟩
          rw [HR.out]
          have HB8 := Lib.hid (below_next HB7.out hz7 hb8)
          clear hb8 r0 r1 r2 r3 CRf7 HB7
          have HT8 := Lib.hid (HTb.out.below HB8.out (Nat.le_refl _))
          go_wp2_with fail
          refine (alive_any w8 HT8.out).mono ?_
          rintro e w9 ⟨rfl, hb9⟩
          have HB9 := Lib.hid (below_next HBb.out (by omega) (below_next HB8.out HB8.out.size hb9))
          clear hb9
          go_wp2_with fail
          go_ret
          exact ⟨rfl, HB9.out⟩
        · have HR := Lib.hid hr
          have CW := Lib.hid (write_yes x _ W.heap.size wc HVc.out (by omega) HTc.out hr (by omega))
          have HFI := Lib.hid (right_fine hr)
          clear hr
          go_wp2_with fail
          refine CW.out.mono ?_
          rintro e w3 ⟨A7, rfl, HS3', hb3⟩
          have HS3 := Lib.hid (HS3'.out.more (Nat.zero_le _) (Nat.le_refl _)).lst
          clear HS3'
          generalize hE : enc x = E at *
          have HE := Lib.hid hE
          clear hE
          have HKb := Lib.hid (HKc.out.below hb3 HKc.out.lt)
          have HJb := Lib.hid (HJc.out.below hb3 HJc.out.lt)
          have HVb := Lib.hid (HVc.out.below (hb3.mono (by omega)))
          have HUb := Lib.hid (HUc.out.below (hb3.mono (by omega)))
          have HTb := Lib.hid (HTc.out.below hb3 (Nat.le_refl _))
          have HBb := Lib.hid (below_next HBW.out hzc hb3)
          have HX5 := Lib.hid (HC5.out.below hl5 hb3)
          have HX6 := Lib.hid (HC6.out.below hl6 hb3)
          have HI5 := Lib.hid (HC5i.out.below hb3)
          have HI6 := Lib.hid (HC6i.out.below hb3)
          have hzb : wc.heap.size ≤ w3.heap.size := hb3.size
          clear hb3 q0 q1 q2 q3 CW
          have KC := Lib.hid (fun (W' : World) (hW : Below w3.heap.size w3 W') => show Cells W' W.heap.size (.int .i64 x.kind) (.int .u64 x.num) (.slice A1 x.bs.length c1) (.slice A2 x.sub.length c2) ∧ Cells W' (W.heap.size + 1) (.int .i64 y.kind) (.int .u64 y.num) (.slice D1 y.bs.length d1) (.slice D2 y.sub.length d2) ∧ Cells W' n5 (.int .i64 k5) (.int .u64 m5) (.slice A5 b5 c5) (.slice A5' b5' c5') ∧ Cells W' n6 (.int .i64 k6) (.int .u64 m6) (.slice A6 b6 c6) (.slice A6' b6' c6') from
            ⟨cells4 (HKb.out.below hW HKb.out.lt), cells4 (HJb.out.below hW HJb.out.lt), HX5.out.below (by omega) hW, HX6.out.below (by omega) hW⟩)
          have CRi := Lib.hid (fun (W' : World) (hW : Below w3.heap.size w3 W') => right_any x _ W.heap.size W' (HVb.out.below (hW.mono (by omega))) (by have := hW.size; omega) (HTb.out.below hW (Nat.le_refl _)))
          have CRf := Lib.hid (fun (W' : World) (hW : Below w3.heap.size w3 W') => refRight_any x _ W' ((HI5.out.below (hW.mono hzb)).more (Nat.le_refl _) (by have := hW.size; omega)) (by omega))
          have CSm := Lib.hid (fun (W' : World) (hW : Below w3.heap.size w3 W') => sameTop_any x y _ _ W.heap.size W' (HVb.out.below (hW.mono (by omega))) (HUb.out.below (hW.mono (by omega))) (by have := hW.size; omega) (by omega) (by omega))
          have CRs := Lib.hid (fun (W' : World) (hW : Below w3.heap.size w3 W') => refSame_any (deep x) x y _ _ W' (Nat.le_refl _) ((HI5.out.below (hW.mono hzb)).more (Nat.le_refl _) (by have := hW.size; omega)) ((HI6.out.below (hW.mono hzb)).more (Nat.le_refl _) (by have := hW.size; omega)) (by omega) (by omega))
          have hss : (same x y != same x y) = false := by simp
          generalize hSS : same x y = ss at *
          have HBd := Lib.hid ((Below.refl w3.heap.size w3).drew)
          go_upto_region 5 with (fail)
          go_region_held3 (fun w' => (w'.cell? ⟨W.heap.size, 0, none⟩ = some (.int .i64 x.kind) ∧ w'.cell? ⟨W.heap.size, 1, none⟩ = some (.int .u64 x.num) ∧ w'.cell? ⟨W.heap.size, 2, none⟩ = some (.slice A1 x.bs.length c1) ∧ w'.cell? ⟨W.heap.size, 3, none⟩ = some (.slice A2 x.sub.length c2)) ∧ (w'.cell? ⟨W.heap.size + 1, 0, none⟩ = some (.int .i64 y.kind) ∧ w'.cell? ⟨W.heap.size + 1, 1, none⟩ = some (.int .u64 y.num) ∧ w'.cell? ⟨W.heap.size + 1, 2, none⟩ = some (.slice D1 y.bs.length d1) ∧ w'.cell? ⟨W.heap.size + 1, 3, none⟩ = some (.slice D2 y.sub.length d2)) ∧ (w'.cell? ⟨n5, 0, none⟩ = some (.int .i64 k5) ∧ w'.cell? ⟨n5, 1, none⟩ = some (.int .u64 m5) ∧ w'.cell? ⟨n5, 2, none⟩ = some (.slice A5 b5 c5) ∧ w'.cell? ⟨n5, 3, none⟩ = some (.slice A5' b5' c5')) ∧ (w'.cell? ⟨n6, 0, none⟩ = some (.int .i64 k6) ∧ w'.cell? ⟨n6, 1, none⟩ = some (.int .u64 m6) ∧ w'.cell? ⟨n6, 2, none⟩ = some (.slice A6 b6 c6) ∧ w'.cell? ⟨n6, 3, none⟩ = some (.slice A6' b6' c6')))
            (first | exact KC.out _ HBd.out | exact KC.out _ HB7.out | exact KC.out _ HB6.out | exact KC.out _ HB5.out | exact KC.out _ HB4.out | fail)
            (first | (go_at_call 16; (refine (CRi.out _ HBd.out).mono ?_); rintro e w4 ⟨rfl, hb4⟩; rw [HR.out]; have HB4 := Lib.hid (below_next HBd.out HBd.out.size hb4); clear hb4) | (go_at_call 17; (refine (CRf.out _ HB4.out).mono ?_); rintro e w5 ⟨rfl, hb5⟩; rw [HR.out]; have HB5 := Lib.hid (below_next HB4.out HB4.out.size hb5); clear hb5) | (go_at_call 18; (refine (CSm.out _ HB5.out).mono ?_); rintro e w6 ⟨rfl, hb6⟩; have HB6 := Lib.hid (below_next HB5.out HB5.out.size hb6); clear hb6) | (go_at_call 19; (refine (CRs.out _ HB6.out).mono ?_); rintro e w7 ⟨rfl, hb7⟩; have HB7 := Lib.hid (below_next HB6.out HB6.out.size hb7); clear hb7) | fail)
          clear HB6 HB5 HB4 CRi CSm CRs
          obtain ⟨-, -, ⟨r0, r1, r2, r3⟩, -⟩ := KC.out _ HB7.out
          have CRf7 := Lib.hid (CRf.out _ HB7.out)
          have hz7 := HB7.out.size
          clear CRf
          go_wp2_with fail
          refine CRf7.out.mono ?_
          rintro e w8 ⟨rfl, hb8⟩
          rw [HR.out]
          have HB8 := Lib.hid (below_next HB7.out hz7 hb8)
          clear hb8 r0 r1 r2 r3 CRf7 HB7
          have HT8 := Lib.hid (HTb.out.below HB8.out (Nat.le_refl _))
          have hz8 := HB8.out.size
          have KC8 := Lib.hid (fun (W' : World) (hW : Below w8.heap.size w8 W') => And.intro (show W'.cell? ⟨n5, 0, none⟩ = some (.int .i64 k5) ∧ W'.cell? ⟨n5, 1, none⟩ = some (.int .u64 m5) ∧ W'.cell? ⟨n5, 2, none⟩ = some (.slice A5 b5 c5) ∧ W'.cell? ⟨n5, 3, none⟩ = some (.slice A5' b5' c5') from (KC.out _ (below_next HB8.out hz8 hW)).2.2.1)
            (run_string (P := Tryd.prog) (HS3.out.below (below_next HB8.out hz8 hW)) 23 5 9 Tryd.underlying23 Tryd.underlying5 Tryd.underlying9 E.length))
          have CAl := Lib.hid (fun (W' : World) (hW : Below w8.heap.size w8 W') => alive_any W' (HT8.out.below hW (Nat.le_refl _)))
          have CRw := Lib.hid (fun (W' : World) (hW : Below w8.heap.size w8 W') => refWrite_any x _ W' ((HI5.out.below ((below_next HB8.out hz8 hW).mono hzb)).more (Nat.le_refl _) (by have := hW.size; omega)) HFI.out (by omega) (by rw [HE.out]; omega))
          have HBd8 := Lib.hid ((Below.refl w8.heap.size w8).drew)
          have HC8 := Lib.hid (below_next HBb.out (by omega) HB8.out)
          clear KC HB8 HX5 HX6 HC5 HC6 HS3 HI6 HVb HUb HKb HJb HTb hss HBd
          go_upto_region 9 with (fail)
          obtain ⟨⟨x0, x1, x2, x3⟩, x4⟩ := KC8.out w8 (Below.refl _ _)
          obtain ⟨-, x5⟩ := KC8.out _ HBd8.out
          go_region_law (first | (go_simp; go_at_call 13; (refine (CAl.out _ HBd8.out).mono ?_); rintro e w9 ⟨rfl, hb9⟩; have HB9 := Lib.hid (below_next HBd8.out HBd8.out.size hb9); obtain ⟨⟨y0, y1, y2, y3⟩, y4⟩ := KC8.out _ HB9.out; clear hb9) | (go_simp; go_at_call 20; (refine (CRw.out _ HB9.out).mono ?_); rintro e w10 ⟨A10, c10, rfl, HL10, hb10⟩; have hl10 := HL10.out; rw [HE.out] at hl10 ⊢; have hc10 := run_string (P := Tryd.prog) hl10 23 5 9 Tryd.underlying23 Tryd.underlying5 Tryd.underlying9 c10; have HB10 := Lib.hid (below_next HB9.out HB9.out.size hb10); obtain ⟨⟨z0, z1, z2, z3⟩, z4⟩ := KC8.out _ HB10.out; clear hb10 hl10) | fail)
          all_goals
            have HBE := Lib.hid (below_next HC8.out (by omega) HB10.out)
            clear HB10 HB9 CAl CRw KC8
            go_wp2_with fail
            go_ret
            exact ⟨rfl, HBE.out⟩
end Go.Proofs.YtoieadbifhealaaDoor.CborWrites
