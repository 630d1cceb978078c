/- The contract of cbor.Read. -/
import Derived.Test.YtoieadbifhealaaDoorCbBody
import Derived.Recover
import Derived.Defers
import Derived.BigRegion
namespace Go.Proofs.YtoieadbifhealaaDoor.CbRead
open Go.RowKit Wd Cb CbCopy CbRight CbWrite CbHead CbPiece CbBytes U8V CbList CbOpen CbMany CbItem CbBody
attribute [local go_sem ↓] Go.wp_at_zero Go.wp_at_succ

theorem assert_yes (v : Value) (w : World) : Sem.run Tryd.prog (Instr.typeAssert (.iface 33 v) 20 33 true) w = .ok (.tuple #[v, .bool true]) w := by kernel_rfl
theorem assert_nil (w : World) : Sem.run Tryd.prog (Instr.typeAssert .nilIface 20 33 true) w = .ok (.tuple #[.int .i64 0, .bool false]) w := by kernel_rfl

set_option maxRecDepth 10000 in
theorem catch_fault (p : Addr) (x k : Int) (w : World) (hc : w.cell? p = some (.int .i64 x)) (hz : w.frozen? p = false) :
    CallsD Tryd.prog 51 #[.pointer (some p)] (.panicking [{ v := .iface 33 (.int .i64 k), recovered := false }]) w fun e u' w' =>
      e = .returned (.tuple #[]) ∧ u' = .panicking [{ v := .iface 33 (.int .i64 k), recovered := true }] ∧ w' = w.setCell p (.int .i64 k) := by
  refine callsD_of_wpS Tryd.func51 rfl fun c₀ cs hu => ?_
  apply wpS_region
  simp [wpOpsS, go_sem, recoverD, hu, Tryd.ntmps51, Exit.thenS, assert_yes, hc, hz, bodyPostS, results, Tryd.results51]
set_option maxRecDepth 10000 in
theorem catch_idle (p : Addr) (x : Int) (w : World) (hc : w.cell? p = some (.int .i64 x)) (hz : w.frozen? p = false) :
    CallsD Tryd.prog 51 #[.pointer (some p)] .returning w fun e u' w' => e = .returned (.tuple #[]) ∧ u' = .returning ∧ w' = w.setCell p (.int .i64 0) := by
  refine callsD_of_wpS Tryd.func51 rfl fun c₀ cs hu => ?_
  apply wpS_region
  simp [wpOpsS, go_sem, recoverD, hu, Tryd.ntmps51, Exit.thenS, assert_nil, hc, hz, bodyPostS, results, Tryd.results51]
  cases c₀
  simp_all

theorem blk_set1 {w : World} {k : Nat} {t : TypeId} {x : Value} (h : Blk w k t #[x]) (a : Value) : Blk (w.setCell ⟨k, 0, none⟩ a) k t #[a] := by
  simpa using h.set_ 0 a
/-- What is behind the return: the answer's four cells and the error are written once more. -/
theorem after5 {W : World} {b : Nat} {t t' : TypeId} {x0 y0 z0 u0 v0 : Value} (hx : Blk W b t #[x0, y0, z0, u0]) (he : Blk W (b + 1) t' #[v0]) (x y z u v : Value) :
    Hid (Blk ((((((W.setCell ⟨b, 0, none⟩ x).setCell ⟨b, 1, none⟩ y).setCell ⟨b, 2, none⟩ z).setCell ⟨b, 3, none⟩ u).setCell ⟨b + 1, 0, none⟩ v).drew) b t #[x, y, z, u]) ∧
    Hid (Blk ((((((W.setCell ⟨b, 0, none⟩ x).setCell ⟨b, 1, none⟩ y).setCell ⟨b, 2, none⟩ z).setCell ⟨b, 3, none⟩ u).setCell ⟨b + 1, 0, none⟩ v).drew) (b + 1) t' #[v]) ∧
    (∀ w : World, Below b w W → Below b w ((((((W.setCell ⟨b, 0, none⟩ x).setCell ⟨b, 1, none⟩ y).setCell ⟨b, 2, none⟩ z).setCell ⟨b, 3, none⟩ u).setCell ⟨b + 1, 0, none⟩ v).drew)) ∧
    (∀ q : Addr, b + 1 < q.block → ((((((W.setCell ⟨b, 0, none⟩ x).setCell ⟨b, 1, none⟩ y).setCell ⟨b, 2, none⟩ z).setCell ⟨b, 3, none⟩ u).setCell ⟨b + 1, 0, none⟩ v).drew).cell? q = W.cell? q) ∧
    ((((((W.setCell ⟨b, 0, none⟩ x).setCell ⟨b, 1, none⟩ y).setCell ⟨b, 2, none⟩ z).setCell ⟨b, 3, none⟩ u).setCell ⟨b + 1, 0, none⟩ v).drew).heap.size = W.heap.size := by
  have h4 := blk_set4 hx x y z u
  have e4 := blk_far4 he (Nat.succ_ne_self b) x y z u
  have b4 : ∀ w : World, Below b w W → Below b w ((((W.setCell ⟨b, 0, none⟩ x).setCell ⟨b, 1, none⟩ y).setCell ⟨b, 2, none⟩ z).setCell ⟨b, 3, none⟩ u) := fun w h => below_set4 h (Nat.le_refl _) x y z u
  have c4 : ∀ q : Addr, b + 1 < q.block → ((((W.setCell ⟨b, 0, none⟩ x).setCell ⟨b, 1, none⟩ y).setCell ⟨b, 2, none⟩ z).setCell ⟨b, 3, none⟩ u).cell? q = W.cell? q := fun q hq => by
    rw [World.cell?_setCell_other _ ⟨b, 3, none⟩ q u (fun e => by subst e; exact absurd (show b + 1 < b from hq) (by omega)), World.cell?_setCell_other _ ⟨b, 2, none⟩ q z (fun e => by subst e; exact absurd (show b + 1 < b from hq) (by omega)), World.cell?_setCell_other _ ⟨b, 1, none⟩ q y (fun e => by subst e; exact absurd (show b + 1 < b from hq) (by omega)), World.cell?_setCell_other _ ⟨b, 0, none⟩ q x (fun e => by subst e; exact absurd (show b + 1 < b from hq) (by omega))]
  have s4 : ((((W.setCell ⟨b, 0, none⟩ x).setCell ⟨b, 1, none⟩ y).setCell ⟨b, 2, none⟩ z).setCell ⟨b, 3, none⟩ u).heap.size = W.heap.size := by simp [World.setCell]
  generalize (((W.setCell ⟨b, 0, none⟩ x).setCell ⟨b, 1, none⟩ y).setCell ⟨b, 2, none⟩ z).setCell ⟨b, 3, none⟩ u = V at *
  refine ⟨Lib.hid (Wd.Blk.far h4 (p := ⟨b + 1, 0, none⟩) (by simp) v).drew, Lib.hid (blk_set1 e4 v).drew, fun w h => ((b4 w h).setCell (p := ⟨b + 1, 0, none⟩) (by simp) v).drew, fun q hq => ?_, ?_⟩
  · exact (World.cell?_setCell_other V ⟨b + 1, 0, none⟩ q v (fun e => by subst e; simp at hq)).trans (c4 q hq)
  · rw [← s4]
    simp [World.setCell, World.drew]

/-- What Read answers, and what it leaves. -/
def ROut (w : World) (e : Ending) (w' : World) : Res Itm → Prop
  | .err k => e = .returned (.tuple #[.agg #[.int .i64 0, .int .u64 0, .slice none 0 0, .slice none 0 0], .int .i64 0, .int .i64 k]) ∧ Hid (Below w.heap.size w w')
  | .ok x p' _ => ∃ v, e = .returned (.tuple #[v, .int .i64 p', .int .i64 0]) ∧ Hid (ItemV w' w.heap.size w'.heap.size x v) ∧ Hid (Below w.heap.size w w')

/-- Ahead of the reading: the three boxes. -/
structure Boxes (w W : World) (A : Option Addr) (c : Nat) (xs : List Int) (p : Int) : Prop where
  res : Blk W w.heap.size 26 #[.int .i64 0, .int .u64 0, .slice none 0 0, .slice none 0 0]
  err : Blk W (w.heap.size + 1) 33 #[.int .i64 0]
  rdr : Rdr W (w.heap.size + 1 + 1) A c xs p 256
  src : Src W (w.heap.size + 1 + 1) A c xs
  below : Below w.heap.size w W
  size : w.heap.size + 3 = W.heap.size
theorem boxes_of {w : World} {A : Option Addr} {B c : Nat} {xs : List Int} {p : Int} (hs : Lst w B A (u8s xs)) (hB : B ≤ w.heap.size) (hx : St.bts xs) (hc : xs.length ≤ c) (hm : c ≤ maxLen) (hl : xs.length ≤ 100000000000) (hT : Tabs w) :
    Boxes w (((w.alloc (.cells #[.int .i64 0, .int .u64 0, .slice none 0 0, .slice none 0 0] 26)).alloc (.cells #[.int .i64 0] 33)).alloc (.cells #[.slice A xs.length c, .int .i64 p, .int .i64 256] 88)) A c xs p := by
  have z1 : (w.alloc (.cells #[.int .i64 0, .int .u64 0, .slice none 0 0, .slice none 0 0] 26)).heap.size = w.heap.size + 1 := World.size_alloc _ _
  have z2 : ((w.alloc (.cells #[.int .i64 0, .int .u64 0, .slice none 0 0, .slice none 0 0] 26)).alloc (.cells #[.int .i64 0] 33)).heap.size = w.heap.size + 1 + 1 := by rw [World.size_alloc, z1]
  have hb := (((Below.refl w.heap.size w).alloc (Nat.le_refl _) (.cells #[.int .i64 0, .int .u64 0, .slice none 0 0, .slice none 0 0] 26)).alloc (by omega) (.cells #[.int .i64 0] 33)).alloc (by omega) (.cells #[.slice A xs.length c, .int .i64 p, .int .i64 256] 88)
  refine ⟨((Blk.new w _ _).alloc _).alloc _, ?_, ?_, ⟨(hs.below' hb hB).more (by omega), hx, hc, hm, hl, hT.below hb (Nat.le_refl _), by have := hT.2.1; omega, by have := hT.2.2; omega⟩, hb, by rw [World.size_alloc, z2]⟩
  · rw [← z1]
    exact (Blk.new _ _ _).alloc _
  · rw [← z2]
    exact Blk.new _ _ _

set_option maxHeartbeats 1000000 in
theorem read_any (A : Option Addr) (B c : Nat) (xs : List Int) (p : Int) (w : World) (hs : Lst w B A (u8s xs)) (hB : B ≤ w.heap.size) (hx : St.bts xs) (hc : xs.length ≤ c) (hm : c ≤ maxLen) (hl : xs.length ≤ 100000000000) (hT : Tabs w) :
    Calls Tryd.prog 21 #[.slice A xs.length c, .int .i64 p] w fun e w' => ∃ r, ReadR xs p r ∧ ROut w e w' r := by
  have hmf : ∀ (fn : Fn) (first cap : Array Value) (w : World), (Instr.makeFunc fn first cap).run Tryd.prog w = .ok (.func fn first cap) w := fun _ _ _ _ => rfl
  have HX := Lib.hid (boxes_of (p := p) hs hB hx hc hm hl hT)
  clear hs hT
  go_enter_defers Tryd.func21, Tryd.ntmps21
  go_wp2_with fail
  generalize ((w.alloc (.cells #[.int .i64 0, .int .u64 0, .slice none 0 0, .slice none 0 0] 26)).alloc (.cells #[.int .i64 0] 33)).alloc (.cells #[.slice A xs.length c, .int .i64 p, .int .i64 256] 88) = W at *
  have hs0 := HX.out.size
  generalize hrd : HeadP.read xs p = rd
  obtain ⟨m1, n1, o1, j1, e1⟩ := rd
  by_cases he1 : e1 = 0
  · subst he1
    have hrb := HeadP.read_ok xs p hx m1 n1 o1 j1 hrd
    refine (head_ok _ A c xs p 256 m1 n1 j1 o1 W HX.out.rdr HX.out.src.lst hx hc hm hrd).mono ?_
    have HRD := Lib.hid hrd
    clear hrd
    rintro e w1 ⟨rfl, HG1, HR1⟩
    have HS1 := Lib.hid (HX.out.src.only (by omega) HG1.out)
    have hs1 := HG1.out.size
    go_wp2_with fail
    refine (item_any _ A c xs 7 1 (by omega) (by omega) m1 n1 o1 j1 256 w1 HR1.out HS1.out (by omega) (by omega) (by omega) (by omega) (by omega) (by omega)).mono ?_
    rintro e w2 ⟨r, hr, ho⟩
    cases r with
    | err k =>
      obtain ⟨rfl, HG2⟩ := ho
      have HG := Lib.hid (only_trans HG1.out HG2.out)
      have HC : Hid (ReadR xs p (.err k)) := Lib.hid (.item HRD.out hr)
      clear hr HG1 HG2 HR1 HS1
      have hb := CbWrite.Blk.grown HX.out.err HG.out (by simp)
      have hx0 := CbWrite.Blk.grown HX.out.res HG.out (by simp; omega)
      have HB2 := Lib.hid (HX.out.below.trans (((Two.of_only HG.out none).keep (by omega) (fun _ e => by cases e)).mono (by omega)))
      unfold fault
      go_wp2_with fail
      refine leaves_cons (f := 51) (args := #[.pointer (some ⟨w.heap.size + 1, 0, none⟩)]) (by simp) (by simp [go_sem]) ?_
      refine (catch_fault ⟨w.heap.size + 1, 0, none⟩ 0 k w2 (by simpa using hb.cell 0) (hb.frozen 0)).mono ?_
      rintro e u' w3 ⟨rfl, rfl, rfl⟩
      have hb3 := hb.set_ 0 (.int .i64 k)
      have hx3 := Wd.Blk.far hx0 (p := ⟨w.heap.size + 1, 0, none⟩) (by simp) (.int .i64 k)
      have HB3 := Lib.hid (HB2.out.setCell (p := ⟨w.heap.size + 1, 0, none⟩) (by simp) (.int .i64 k))
      obtain ⟨⟨d0, d1, d2, d3⟩, -⟩ := blk_four hx3
      have q0 : (w2.setCell ⟨w.heap.size + 1, 0, none⟩ (.int .i64 k)).cell? ⟨w.heap.size + 1, 0, none⟩ = some (.int .i64 k) := by simpa using hb3.cell 0
      clear hb hx0 hb3 hx3 HB2
      generalize w2.setCell ⟨w.heap.size + 1, 0, none⟩ (.int .i64 k) = W3 at *
      simp [Leaves, settle, results, Tryd.results21, go_sem, d0, d1, d2, d3, q0]
      exact ⟨_, HC.out, rfl, HB3⟩
    | ok x p2 l2 =>
      obtain ⟨v, rfl, HV, HR2, HG2, hp2, hp2', hl2, hl2'⟩ := ho
      have HC : Hid (ReadR xs p (.ok x p2 l2)) := Lib.hid (.item HRD.out hr)
      have HG := Lib.hid (only_trans HG1.out HG2.out)
      have hs2 := HG2.out.size
      clear hr HG1 HG2 HR1 HS1
      have HE := Lib.hid (CbWrite.Blk.grown HX.out.err HG.out (by simp))
      have HX0 := Lib.hid (CbWrite.Blk.grown HX.out.res HG.out (by simp; omega))
      have HB2 := Lib.hid (HX.out.below.trans (((Two.of_only HG.out none).keep (by omega) (fun _ e => by cases e)).mono (by omega)))
      obtain ⟨cs, rfl, hrep⟩ := HV.out
      obtain ⟨A1, c1, A2, c2, rfl, _⟩ := hrep.open_
      have HREP := Lib.hid hrep
      obtain ⟨⟨d0, d1, d2, d3⟩, f0, f1, f2, f3⟩ := blk_four HX0.out
      clear hrep HV HX HG
      go_upto_region 4 with (fail)
      have HX3 := Lib.hid (blk_set4 HX0.out (.int .i64 x.kind) (.int .u64 x.num) (.slice A1 x.bs.length c1) (.slice A2 x.sub.length c2))
      have HE3 := Lib.hid (blk_far4 (k := w.heap.size) HE.out (by omega) (.int .i64 x.kind) (.int .u64 x.num) (.slice A1 x.bs.length c1) (.slice A2 x.sub.length c2))
      have HR3 := Lib.hid (blk_far4 (k := w.heap.size) HR2.out (by omega) (.int .i64 x.kind) (.int .u64 x.num) (.slice A1 x.bs.length c1) (.slice A2 x.sub.length c2))
      have HV3 : Hid (Rep ((((w2.setCell ⟨w.heap.size, 0, none⟩ (.int .i64 x.kind)).setCell ⟨w.heap.size, 1, none⟩ (.int .u64 x.num)).setCell ⟨w.heap.size, 2, none⟩ (.slice A1 x.bs.length c1)).setCell ⟨w.heap.size, 3, none⟩ (.slice A2 x.sub.length c2)) w1.heap.size w2.heap.size x [.int .i64 x.kind, .int .u64 x.num, .slice A1 x.bs.length c1, .slice A2 x.sub.length c2]) := Lib.hid (HREP.out.keep fun q h1 h2 => by
        have := (only_set4 (World.grownBy.refl w2 (some w.heap.size)) (.int .i64 x.kind) (.int .u64 x.num) (.slice A1 x.bs.length c1) (.slice A2 x.sub.length c2)).block q.block h2 (fun e => by injection e; omega)
        exact World.cell?_of_block this)
      have HB3 := Lib.hid (below_set4 HB2.out (Nat.le_refl _) (.int .i64 x.kind) (.int .u64 x.num) (.slice A1 x.bs.length c1) (.slice A2 x.sub.length c2))
      have hs3 : ((((w2.setCell ⟨w.heap.size, 0, none⟩ (.int .i64 x.kind)).setCell ⟨w.heap.size, 1, none⟩ (.int .u64 x.num)).setCell ⟨w.heap.size, 2, none⟩ (.slice A1 x.bs.length c1)).setCell ⟨w.heap.size, 3, none⟩ (.slice A2 x.sub.length c2)).heap.size = w2.heap.size := by simp [World.setCell]
      clear HX0 HE HR2 HB2 HREP d0 d1 d2 d3 f0 f1 f2 f3
      generalize (((w2.setCell ⟨w.heap.size, 0, none⟩ (.int .i64 x.kind)).setCell ⟨w.heap.size, 1, none⟩ (.int .u64 x.num)).setCell ⟨w.heap.size, 2, none⟩ (.slice A1 x.bs.length c1)).setCell ⟨w.heap.size, 3, none⟩ (.slice A2 x.sub.length c2) = W3 at *
      have HX4 := Lib.hid HX3.out.drew
      have HE4 := Lib.hid HE3.out.drew
      have HR4 : Hid (Rdr W3.drew (w.heap.size + 1 + 1) A c xs p2 l2) := Lib.hid (Blk.drew HR3.out)
      obtain ⟨⟨d0, d1, d2, d3⟩, f0, f1, f2, f3⟩ := blk_four HX4.out
      obtain ⟨r0, r1, r2⟩ := HR4.out.cells
      have g0 : W3.drew.cell? ⟨w.heap.size + 1, 0, none⟩ = some (.int .i64 0) := by simpa using HE4.out.cell 0
      have g1 := HE4.out.frozen 0
      obtain ⟨⟨d0', d1', d2', d3'⟩, f0', f1', f2', f3'⟩ := blk_four HX3.out
      obtain ⟨r0', r1', r2'⟩ := (show Rdr W3 (w.heap.size + 1 + 1) A c xs p2 l2 from HR3.out).cells
      have g0' : W3.cell? ⟨w.heap.size + 1, 0, none⟩ = some (.int .i64 0) := by simpa using HE3.out.cell 0
      have g1' := HE3.out.frozen 0
      go_region
      obtain ⟨HX5, HE5, hb5, hc5, hs5'⟩ := after5 HX3.out HE3.out (.int .i64 x.kind) (.int .u64 x.num) (.slice A1 x.bs.length c1) (.slice A2 x.sub.length c2) (.int .i64 0)
      have HB5 := Lib.hid (hb5 w HB3.out)
      have HC5 := Lib.hid hc5
      have hs5 := hs5'.trans hs3
      clear hb5 hc5 hs5'
      clear HX3 HE3 HR3 HB3 HX4 HE4 HR4 d0 d1 d2 d3 f0 f1 f2 f3 r0 r1 r2 g0 g1 d0' d1' d2' d3' f0' f1' f2' f3' r0' r1' r2' g0' g1' hs3
      generalize (((((W3.setCell ⟨w.heap.size, 0, none⟩ (.int .i64 x.kind)).setCell ⟨w.heap.size, 1, none⟩ (.int .u64 x.num)).setCell ⟨w.heap.size, 2, none⟩ (.slice A1 x.bs.length c1)).setCell ⟨w.heap.size, 3, none⟩ (.slice A2 x.sub.length c2)).setCell ⟨w.heap.size + 1, 0, none⟩ (.int .i64 0)).drew = W5 at *
      have HV5 : Hid (Rep W5 w1.heap.size w2.heap.size x [.int .i64 x.kind, .int .u64 x.num, .slice A1 x.bs.length c1, .slice A2 x.sub.length c2]) := Lib.hid (HV3.out.keep fun q h1 h2 => HC5.out q (by omega))
      clear HV3
      go_wp2_with fail
      refine leaves_cons (f := 51) (args := #[.pointer (some ⟨w.heap.size + 1, 0, none⟩)]) (by simp) (by simp [go_sem]) ?_
      refine (catch_idle ⟨w.heap.size + 1, 0, none⟩ 0 W5 (by simpa using HE5.out.cell 0) (HE5.out.frozen 0)).mono ?_
      rintro e u' w6 ⟨rfl, rfl, rfl⟩
      have hb3 := HE5.out.set_ 0 (.int .i64 0)
      have hx3 := Wd.Blk.far HX5.out (p := ⟨w.heap.size + 1, 0, none⟩) (by simp) (.int .i64 0)
      have HB6 := Lib.hid (HB5.out.setCell (p := ⟨w.heap.size + 1, 0, none⟩) (by simp) (.int .i64 0))
      have HV6 : Hid (Rep (W5.setCell ⟨w.heap.size + 1, 0, none⟩ (.int .i64 0)) w1.heap.size w2.heap.size x [.int .i64 x.kind, .int .u64 x.num, .slice A1 x.bs.length c1, .slice A2 x.sub.length c2]) := Lib.hid (HV5.out.keep fun q h1 h2 => World.cell?_setCell_other _ ⟨w.heap.size + 1, 0, none⟩ q (.int .i64 0) (fun e => by subst e; simp at h1; omega))
      have hs6 : (W5.setCell ⟨w.heap.size + 1, 0, none⟩ (.int .i64 0)).heap.size = w2.heap.size := by rw [← hs5]; simp [World.setCell]
      obtain ⟨⟨d0, d1, d2, d3⟩, -⟩ := blk_four hx3
      have q0 : (W5.setCell ⟨w.heap.size + 1, 0, none⟩ (.int .i64 0)).cell? ⟨w.heap.size + 1, 0, none⟩ = some (.int .i64 0) := by simpa using hb3.cell 0
      clear hb3 hx3 HB5 HV5 HX5 HE5
      generalize W5.setCell ⟨w.heap.size + 1, 0, none⟩ (.int .i64 0) = W6 at *
      simp [Leaves, settle, results, Tryd.results21, go_sem, d0, d1, d2, d3, q0]
      exact ⟨_, HC.out, _, rfl, Lib.hid ⟨_, rfl, HV6.out.more (by omega) (by omega)⟩, HB6⟩
  · refine (head_err _ A c xs p 256 m1 n1 j1 e1 o1 W HX.out.rdr HX.out.src.lst hx hc hm hrd he1).mono ?_
    have HC : Hid (ReadR xs p (.err e1)) := Lib.hid (.bad hrd he1)
    clear hrd he1
    rintro e w2 ⟨rfl, HG⟩
    have hb := CbWrite.Blk.grown HX.out.err HG.out (by simp)
    have hx0 := CbWrite.Blk.grown HX.out.res HG.out (by simp; omega)
    have HB2 := Lib.hid (HX.out.below.trans (((Two.of_only HG.out none).keep (by omega) (fun _ e => by cases e)).mono (by omega)))
    unfold fault
    go_wp2_with fail
    refine leaves_cons (f := 51) (args := #[.pointer (some ⟨w.heap.size + 1, 0, none⟩)]) (by simp) (by simp [go_sem]) ?_
    refine (catch_fault ⟨w.heap.size + 1, 0, none⟩ 0 e1 w2 (by simpa using hb.cell 0) (hb.frozen 0)).mono ?_
    rintro e u' w3 ⟨rfl, rfl, rfl⟩
    have hb3 := hb.set_ 0 (.int .i64 e1)
    have hx3 := Wd.Blk.far hx0 (p := ⟨w.heap.size + 1, 0, none⟩) (by simp) (.int .i64 e1)
    have HB3 := Lib.hid (HB2.out.setCell (p := ⟨w.heap.size + 1, 0, none⟩) (by simp) (.int .i64 e1))
    obtain ⟨⟨d0, d1, d2, d3⟩, -⟩ := blk_four hx3
    have q0 : (w2.setCell ⟨w.heap.size + 1, 0, none⟩ (.int .i64 e1)).cell? ⟨w.heap.size + 1, 0, none⟩ = some (.int .i64 e1) := by simpa using hb3.cell 0
    clear hb hx0 hb3 hx3 HB2
    generalize w2.setCell ⟨w.heap.size + 1, 0, none⟩ (.int .i64 e1) = W3 at *
    simp [Leaves, settle, results, Tryd.results21, go_sem, d0, d1, d2, d3, q0]
    exact ⟨_, HC.out, rfl, HB3⟩
end Go.Proofs.YtoieadbifhealaaDoor.CbRead
