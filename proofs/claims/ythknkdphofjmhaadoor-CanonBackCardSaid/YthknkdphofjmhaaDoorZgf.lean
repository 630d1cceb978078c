/- Texts of my own, laid together: CbHead, CbPiece, CbBytes. -/
import Derived.Test.YthknkdphofjmhaaDoorCbWrite
import Derived.Test.YthknkdphofjmhaaDoorZg9
import Derived.Test.YthknkdphofjmhaaDoorHeadR
import Derived.WalkLawsBesides
import Derived.Deep.CutBlock
import Derived.Deep.LoopGhost
/- The contracts of the reader's small methods: head, ends, need. -/
namespace Go.Proofs.YthknkdphofjmhaaDoor.CbHead
open Go.RowKit Wd Cb CbCopy CbRight CbWrite
attribute [local go_sem ↓] Go.wp_at_zero Go.wp_at_succ

/-- The reader in its block. -/
def Rdr (w : World) (g : Nat) (A : Option Addr) (c : Nat) (xs : List Int) (p left : Int) : Prop := Blk w g 154 #[.slice A xs.length c, .int .i64 p, .int .i64 left]
/-- A panic with an error's number. -/
def fault (e : Int) : Ending := .panicked [{ v := .iface 29 (.int .i64 e), recovered := false }]

theorem Rdr.lt {w : World} {g : Nat} {A : Option Addr} {c : Nat} {xs : List Int} {p left : Int} (h : Rdr w g A c xs p left) : g < w.heap.size := Blk.lt h
theorem Rdr.below {w w' : World} {g : Nat} {A : Option Addr} {c : Nat} {xs : List Int} {p left : Int} (h : Rdr w g A c xs p left) (hb : Below w.heap.size w w') : Rdr w' g A c xs p left := Blk.next h hb
theorem Rdr.alloc {w : World} {g : Nat} {A : Option Addr} {c : Nat} {xs : List Int} {p left : Int} (h : Rdr w g A c xs p left) (o : Obj) : Rdr (w.alloc o) g A c xs p left := Blk.alloc h o
theorem Rdr.drew {w : World} {g : Nat} {A : Option Addr} {c : Nat} {xs : List Int} {p left : Int} (h : Rdr w g A c xs p left) : Rdr w.drew g A c xs p left := h
theorem Rdr.drewN {w : World} {g : Nat} {A : Option Addr} {c : Nat} {xs : List Int} {p left : Int} (h : Rdr w g A c xs p left) (k : Nat) : Rdr (w.drewN k) g A c xs p left := h
theorem Rdr.cells {w : World} {g : Nat} {A : Option Addr} {c : Nat} {xs : List Int} {p left : Int} (h : Rdr w g A c xs p left) :
    w.cell? ⟨g, 0, none⟩ = some (.slice A xs.length c) ∧ w.cell? ⟨g, 1, none⟩ = some (.int .i64 p) ∧ w.cell? ⟨g, 2, none⟩ = some (.int .i64 left) :=
  ⟨by simpa using Blk.cell h 0, by simpa using Blk.cell h 1, by simpa using Blk.cell h 2⟩
theorem Rdr.frozen {w : World} {g : Nat} {A : Option Addr} {c : Nat} {xs : List Int} {p left : Int} (h : Rdr w g A c xs p left) (i : Nat) : w.frozen? ⟨g, i, none⟩ = false := Blk.frozen h i

theorem only_set3 {a w : World} {g : Nat} (h : a.grownBy w (some g)) (x y z : Value) : a.grownBy (((w.setCell ⟨g, 0, none⟩ x).setCell ⟨g, 1, none⟩ y).setCell ⟨g, 2, none⟩ z) (some g) :=
  only_set (p := ⟨g, 2, none⟩) (only_set (p := ⟨g, 1, none⟩) (only_set (p := ⟨g, 0, none⟩) h rfl x) rfl y) rfl z
theorem only_set4 {a w : World} {g : Nat} (h : a.grownBy w (some g)) (x y z u : Value) : a.grownBy ((((w.setCell ⟨g, 0, none⟩ x).setCell ⟨g, 1, none⟩ y).setCell ⟨g, 2, none⟩ z).setCell ⟨g, 3, none⟩ u) (some g) :=
  only_set (p := ⟨g, 3, none⟩) (only_set3 h x y z) rfl u
/-- A store into a block of one's own is none of the others' business. -/
theorem only_own {a w w' : World} {g b : Nat} (h : a.grownBy w (some g)) (k : w.grownBy w' (some b)) (hb : a.heap.size ≤ b) : a.grownBy w' (some g) :=
  own_next h k (fun q hq => by injection hq with hq; exact .inr (by omega))

theorem ends_any (m n : Int) (o : Bool) (w : World) : Calls Tryd.prog 116 #[.agg #[.int .i64 m, .int .u64 n, .bool o]] w fun e w' => e = .returned (.bool (ends m n o)) ∧ Below w.heap.size w w' := by
  go_enter Tryd.func116, Tryd.ntmps116
  go_wp2_with fail
  all_goals go_ret
  all_goals exact ⟨ret_bool (by simp [ends, *]), (Below.refl _ _).alloc (Nat.le_refl _) _⟩

theorem read_tuple (A : Option Addr) (B c : Nat) (xs : List Int) (p m n j e : Int) (o : Bool) (w : World) (hs : Lst w B A (u8s xs)) (hB : B ≤ w.heap.size) (hx : St.bts xs) (hc : xs.length ≤ c) (hm : c ≤ maxLen) (hr : HeadP.read xs p = (m, n, o, j, e)) :
    Calls Tryd.prog 112 #[.slice A xs.length c, .int .i64 p] w fun e' w' => e' = .returned (.tuple #[.agg #[.int .i64 m, .int .u64 n, .bool o], .int .i64 j, .int .i64 e]) ∧ Below w.heap.size w w' :=
  (HeadR.read_any A B c xs p w hs hB hx hc hm).mono fun e' w' ⟨h1, h2⟩ => ⟨by rw [h1, hr]; rfl, h2⟩

set_option maxHeartbeats 1000000 in
theorem head_ok (g : Nat) (A : Option Addr) (c : Nat) (xs : List Int) (p left m n j : Int) (o : Bool) (w : World) (hR : Rdr w g A c xs p left) (hs : Lst w g A (u8s xs)) (hx : St.bts xs) (hc : xs.length ≤ c) (hm : c ≤ maxLen) (hr : HeadP.read xs p = (m, n, o, j, 0)) :
    Calls Tryd.prog 103 #[.pointer (some ⟨g, 0, none⟩)] w fun e w' => e = .returned (.agg #[.int .i64 m, .int .u64 n, .bool o]) ∧ Hid (w.grownBy w' (some g)) ∧ Hid (Rdr w' g A c xs j left) := by
  obtain ⟨c0, c1, c2⟩ := hR.cells
  have C1 := Lib.hid (fun (W : World) (hW : Below w.heap.size w W) => read_tuple A g c xs p m n j 0 o W (hs.below (hW.mono (Nat.le_of_lt hR.lt))) (by have := hW.size; have := hR.lt; omega) hx hc hm hr)
  have KC := Lib.hid (fun (W : World) (hW : Below w.heap.size w W) => And.intro ((hR.below hW).cells.1) ((hR.below hW).cells.2.1))
  have HB0 := Lib.hid ((Below.refl w.heap.size w).alloc (Nat.le_refl _) (.cells #[.int .i64 0, .int .u64 0, .bool false] 133))
  have HR := Lib.hid hr
  have HRd := Lib.hid hR
  clear hr hR
  go_enter Tryd.func103, Tryd.ntmps103
  go_upto_region 1 with (fail)
  go_cut [3, 4, 5] from 6 to 18 (fun q a b wx => ∃ k : Nat, q = .pointer (some ⟨k, 0, none⟩) ∧ a = .int .i64 j ∧ b = .int .i64 0 ∧ w.heap.size < k ∧ Hid (Blk wx k 133 #[.int .i64 m, .int .u64 n, .bool o]) ∧ Hid (Blk wx w.heap.size 133 #[.int .i64 0, .int .u64 0, .bool false]) ∧ Hid (Below w.heap.size w wx))
  case first =>
    have HK0 := Lib.hid (Blk.new w 133 #[.int .i64 0, .int .u64 0, .bool false])
    have hz0 : (w.alloc (.cells #[.int .i64 0, .int .u64 0, .bool false] 133)).heap.size = w.heap.size + 1 := World.size_alloc _ _
    generalize w.alloc (.cells #[.int .i64 0, .int .u64 0, .bool false] 133) = W0 at *
    have HB0d := Lib.hid HB0.out.drew
    have HBa := Lib.hid ((HB0.out.alloc HB0.out.size (.cells #[.int .i64 0, .int .u64 0, .bool false] 133)).drew)
    have HKa := Lib.hid ((HK0.out.alloc (.cells #[.int .i64 0, .int .u64 0, .bool false] 133)).drew)
    have HKz := Lib.hid ((Blk.new W0 133 #[.int .i64 0, .int .u64 0, .bool false]).drew)
    have HZ0 := Lib.hid hz0
    clear hz0 c0 c1 c2
    go_region_held3 (fun w' => w'.cell? ⟨g, 0, none⟩ = some (.slice A xs.length c) ∧ w'.cell? ⟨g, 1, none⟩ = some (.int .i64 p))
      (first | exact KC.out _ HB0d.out | exact KC.out _ HBa.out | exact KC.out _ HB1.out | exact KC.out _ (HB1.out.alloc HB1.out.size _) | exact KC.out _ (below_set3 HB1.out (by have := HZ0.out; omega) _ _ _))
      (first | (go_at_call 112; first | (refine (C1.out _ HB0d.out).mono ?_; rintro e w1 ⟨rfl, hb1⟩; have HB1 := Lib.hid (below_next HB0d.out HB0d.out.size hb1); have HK1 := Lib.hid (HK0.out.drew.next hb1); clear hb1) | (refine (C1.out _ HBa.out).mono ?_; rintro e w1 ⟨rfl, hb1⟩; have HB1 := Lib.hid (below_next HBa.out HBa.out.size hb1); have HK1 := Lib.hid (HKa.out.next hb1); have HKy := Lib.hid (HKz.out.next hb1); have x0 : w1.cell? ⟨W0.heap.size, 0, none⟩ = some (.int .i64 0) := HKy.out.three.1; have x1 : w1.cell? ⟨W0.heap.size, 1, none⟩ = some (.int .u64 0) := HKy.out.three.2.1; have x2 : w1.cell? ⟨W0.heap.size, 2, none⟩ = some (.bool false) := HKy.out.three.2.2; have z0 := HKy.out.frozen 0; have z1 := HKy.out.frozen 1; have z2 := HKy.out.frozen 2; clear hb1)))
    · go_wp2_with fail
      go_meet
      have hz := HB1.out.size
      have hz2 := HZ0.out
      exact ⟨w1.heap.size, rfl, rfl, rfl, by first | omega | (have := HK1.out.lt; omega), Lib.hid (Blk.new w1 _ _), Lib.hid (HK1.out.alloc _), Lib.hid (HB1.out.alloc hz _)⟩
    · go_wp2_with fail
      go_meet
      have hz2 := HZ0.out
      exact ⟨W0.heap.size, rfl, rfl, rfl, by omega, Lib.hid (by simpa using ((HKy.out.set_ 0 (.int .i64 m)).set_ 1 (.int .u64 n)).set_ 2 (.bool o)), Lib.hid (((HK1.out.far (p := ⟨W0.heap.size, 0, none⟩) (by simp; omega) _).far (p := ⟨W0.heap.size, 1, none⟩) (by simp; omega) _).far (p := ⟨W0.heap.size, 2, none⟩) (by simp; omega) _), Lib.hid (below_set3 HB1.out (by omega) _ _ _)⟩
  case rest =>
    obtain ⟨k, rfl, rfl, rfl, hk, HKk, HKr, HBc⟩ := hcut
    have hR2 := HRd.out.below HBc.out
    obtain ⟨r0, r1, r2⟩ := hR2.cells
    have rz := hR2.frozen 1
    obtain ⟨k0, k1, k2⟩ := HKk.out.three
    obtain ⟨d0, d1, d2⟩ := HKr.out.three
    have z0 := HKr.out.frozen 0
    have z1 := HKr.out.frozen 1
    have z2 := HKr.out.frozen 2
    have hgl : g < w.heap.size := HRd.out.lt
    have n1 : ¬ g = w.heap.size := by omega
    have n2 : ¬ g = k := by omega
    have n3 : ¬ w.heap.size = g := by omega
    have n4 : ¬ k = g := by omega
    have HR2 := Lib.hid hR2
    clear hR2
    go_wp2_with fail
    have HGn : Hid (w.grownBy ((((wc.setCell ⟨g, 1, none⟩ (.int .i64 j)).setCell ⟨w.heap.size, 0, none⟩ (.int .i64 m)).setCell ⟨w.heap.size, 1, none⟩ (.int .u64 n)).setCell ⟨w.heap.size, 2, none⟩ (.bool o)) (some g)) := Lib.hid (by
      have h1 : w.grownBy (wc.setCell ⟨g, 1, none⟩ (.int .i64 j)) (some g) := only_set (only_below HBc.out) rfl _
      exact only_own h1 (only_set3 (World.grownBy.refl _ _) _ _ _) (Nat.le_refl _))
    have HRn : Hid (Rdr ((((wc.setCell ⟨g, 1, none⟩ (.int .i64 j)).setCell ⟨w.heap.size, 0, none⟩ (.int .i64 m)).setCell ⟨w.heap.size, 1, none⟩ (.int .u64 n)).setCell ⟨w.heap.size, 2, none⟩ (.bool o)) g A c xs j left) := Lib.hid (by
      have h0 : Blk (wc.setCell ⟨g, 1, none⟩ (.int .i64 j)) g 154 #[.slice A xs.length c, .int .i64 j, .int .i64 left] := by
        have h := Blk.set_ (show Blk wc g 154 #[.slice A xs.length c, .int .i64 p, .int .i64 left] from HR2.out) 1 (.int .i64 j)
        simpa using h
      have h1 := Wd.Blk.far h0 (p := ⟨w.heap.size, 0, none⟩) n1 (.int .i64 m)
      have h2 := Wd.Blk.far h1 (p := ⟨w.heap.size, 1, none⟩) n1 (.int .u64 n)
      exact Wd.Blk.far h2 (p := ⟨w.heap.size, 2, none⟩) n1 (.bool o))
    exact bodyPost_ret (v := .agg #[.int .i64 m, .int .u64 n, .bool o]) (by simp [results, Tryd.results103, go_sem, d0, d1, d2, z0, z1, z2, r0, r1, r2, rz, n1, n3]) rfl ⟨rfl, HGn, HRn⟩
set_option maxHeartbeats 1000000 in
theorem head_err (g : Nat) (A : Option Addr) (c : Nat) (xs : List Int) (p left m n j er : Int) (o : Bool) (w : World) (hR : Rdr w g A c xs p left) (hs : Lst w g A (u8s xs)) (hx : St.bts xs) (hc : xs.length ≤ c) (hm : c ≤ maxLen) (hr : HeadP.read xs p = (m, n, o, j, er)) (he : er ≠ 0) :
    Calls Tryd.prog 103 #[.pointer (some ⟨g, 0, none⟩)] w fun e w' => e = fault er ∧ Hid (w.grownBy w' (some g)) := by
  obtain ⟨c0, c1, c2⟩ := hR.cells
  have C1 := Lib.hid (fun (W : World) (hW : Below w.heap.size w W) => read_tuple A g c xs p m n j er o W (hs.below (hW.mono (Nat.le_of_lt hR.lt))) (by have := hW.size; have := hR.lt; omega) hx hc hm hr)
  have KC := Lib.hid (fun (W : World) (hW : Below w.heap.size w W) => And.intro ((hR.below hW).cells.1) ((hR.below hW).cells.2.1))
  have HB0 := Lib.hid ((Below.refl w.heap.size w).alloc (Nat.le_refl _) (.cells #[.int .i64 0, .int .u64 0, .bool false] 133))
  have HR := Lib.hid hr
  have heb : (er != 0) = true := by simpa using he
  have HRd := Lib.hid hR
  clear hr hR
  go_enter Tryd.func103, Tryd.ntmps103
  go_upto_region 1 with (fail)
  go_cut [3, 4, 5] from 6 to 18 (fun q a b wx => ∃ k : Nat, q = .pointer (some ⟨k, 0, none⟩) ∧ a = .int .i64 j ∧ b = .int .i64 er ∧ w.heap.size < k ∧ Hid (Blk wx k 133 #[.int .i64 m, .int .u64 n, .bool o]) ∧ Hid (Blk wx w.heap.size 133 #[.int .i64 0, .int .u64 0, .bool false]) ∧ Hid (Below w.heap.size w wx))
  case first =>
    have HK0 := Lib.hid (Blk.new w 133 #[.int .i64 0, .int .u64 0, .bool false])
    have hz0 : (w.alloc (.cells #[.int .i64 0, .int .u64 0, .bool false] 133)).heap.size = w.heap.size + 1 := World.size_alloc _ _
    generalize w.alloc (.cells #[.int .i64 0, .int .u64 0, .bool false] 133) = W0 at *
    have HB0d := Lib.hid HB0.out.drew
    have HBa := Lib.hid ((HB0.out.alloc HB0.out.size (.cells #[.int .i64 0, .int .u64 0, .bool false] 133)).drew)
    have HKa := Lib.hid ((HK0.out.alloc (.cells #[.int .i64 0, .int .u64 0, .bool false] 133)).drew)
    have HKz := Lib.hid ((Blk.new W0 133 #[.int .i64 0, .int .u64 0, .bool false]).drew)
    have HZ0 := Lib.hid hz0
    clear hz0 c0 c1 c2
    go_region_held3 (fun w' => w'.cell? ⟨g, 0, none⟩ = some (.slice A xs.length c) ∧ w'.cell? ⟨g, 1, none⟩ = some (.int .i64 p))
      (first | exact KC.out _ HB0d.out | exact KC.out _ HBa.out | exact KC.out _ HB1.out | exact KC.out _ (HB1.out.alloc HB1.out.size _) | exact KC.out _ (below_set3 HB1.out (by have := HZ0.out; omega) _ _ _))
      (first | (go_at_call 112; first | (refine (C1.out _ HB0d.out).mono ?_; rintro e w1 ⟨rfl, hb1⟩; have HB1 := Lib.hid (below_next HB0d.out HB0d.out.size hb1); have HK1 := Lib.hid (HK0.out.drew.next hb1); clear hb1) | (refine (C1.out _ HBa.out).mono ?_; rintro e w1 ⟨rfl, hb1⟩; have HB1 := Lib.hid (below_next HBa.out HBa.out.size hb1); have HK1 := Lib.hid (HKa.out.next hb1); have HKy := Lib.hid (HKz.out.next hb1); have x0 : w1.cell? ⟨W0.heap.size, 0, none⟩ = some (.int .i64 0) := HKy.out.three.1; have x1 : w1.cell? ⟨W0.heap.size, 1, none⟩ = some (.int .u64 0) := HKy.out.three.2.1; have x2 : w1.cell? ⟨W0.heap.size, 2, none⟩ = some (.bool false) := HKy.out.three.2.2; have z0 := HKy.out.frozen 0; have z1 := HKy.out.frozen 1; have z2 := HKy.out.frozen 2; clear hb1)))
    · go_wp2_with fail
      go_meet
      have hz := HB1.out.size
      have hz2 := HZ0.out
      exact ⟨w1.heap.size, rfl, rfl, rfl, by first | omega | (have := HK1.out.lt; omega), Lib.hid (Blk.new w1 _ _), Lib.hid (HK1.out.alloc _), Lib.hid (HB1.out.alloc hz _)⟩
    · go_wp2_with fail
      go_meet
      have hz2 := HZ0.out
      exact ⟨W0.heap.size, rfl, rfl, rfl, by omega, Lib.hid (by simpa using ((HKy.out.set_ 0 (.int .i64 m)).set_ 1 (.int .u64 n)).set_ 2 (.bool o)), Lib.hid (((HK1.out.far (p := ⟨W0.heap.size, 0, none⟩) (by simp; omega) _).far (p := ⟨W0.heap.size, 1, none⟩) (by simp; omega) _).far (p := ⟨W0.heap.size, 2, none⟩) (by simp; omega) _), Lib.hid (below_set3 HB1.out (by omega) _ _ _)⟩
  case rest =>
    obtain ⟨k, rfl, rfl, rfl, hk, HKk, HKr, HBc⟩ := hcut
    go_wp2_with fail
    exact ⟨rfl, rfl, Lib.hid (only_below HBc.out)⟩
end Go.Proofs.YthknkdphofjmhaaDoor.CbHead
/- The contracts of the reader's need and piece. -/
namespace Go.Proofs.YthknkdphofjmhaaDoor.CbPiece
open Go.RowKit Wd Cb CbCopy CbRight CbWrite CbHead U8V
attribute [local go_sem ↓] Go.wp_at_zero Go.wp_at_succ

set_option maxHeartbeats 1000000 in
theorem need_ok (g : Nat) (A : Option Addr) (c : Nat) (xs : List Int) (p left n : Int) (w : World) (hR : Rdr w g A c xs p left) (hc : xs.length ≤ c) (hm : c ≤ maxLen) (h0 : 0 ≤ p) (h1 : p ≤ xs.length) (hn0 : 0 ≤ n) (hn : ¬ (xs.length : Int) - p < n) :
    Calls Tryd.prog 117 #[.pointer (some ⟨g, 0, none⟩), .int .u64 n] w fun e w' => e = .returned (.tuple #[]) ∧ ∃ q, w' = w.drewN q := by
  obtain ⟨c0, c1, c2⟩ := hR.cells
  unfold maxLen at hm
  have hb : decide ((xs.length : Int) - p < n) = false := decide_eq_false hn
  have hw : IntKind.i64.wrap ((xs.length : Int) - p) = (xs.length : Int) - p := by rw [IntKind.wrap_i64]; omega
  have hw2 : IntKind.u64.wrap ((xs.length : Int) - p) = (xs.length : Int) - p := by rw [IntKind.wrap_u64]; omega
  go_enter Tryd.func117, Tryd.ntmps117
  go_wp2_with fail
  go_quiet (fail)
  go_wp2_with fail
  go_end0
  exact ⟨rfl, _, rfl⟩
set_option maxHeartbeats 1000000 in
theorem need_err (g : Nat) (A : Option Addr) (c : Nat) (xs : List Int) (p left n : Int) (w : World) (hR : Rdr w g A c xs p left) (hc : xs.length ≤ c) (hm : c ≤ maxLen) (h0 : 0 ≤ p) (h1 : p ≤ xs.length) (hn0 : 0 ≤ n) (hn : (xs.length : Int) - p < n) :
    Calls Tryd.prog 117 #[.pointer (some ⟨g, 0, none⟩), .int .u64 n] w fun e w' => e = fault 8 ∧ ∃ q, w' = w.drewN q := by
  obtain ⟨c0, c1, c2⟩ := hR.cells
  unfold maxLen at hm
  have hb : decide ((xs.length : Int) - p < n) = true := decide_eq_true hn
  have hw : IntKind.i64.wrap ((xs.length : Int) - p) = (xs.length : Int) - p := by rw [IntKind.wrap_i64]; omega
  have hw2 : IntKind.u64.wrap ((xs.length : Int) - p) = (xs.length : Int) - p := by rw [IntKind.wrap_u64]; omega
  go_enter Tryd.func117, Tryd.ntmps117
  go_wp2_with fail
  go_quiet (fail)
  go_wp2_with fail
  exact ⟨rfl, rfl, _, rfl⟩

/-- Nothing but block g, and the row r, is other than it was. -/
structure Two (w w' : World) (g : Nat) (r : Option Nat) : Prop where
  os : w'.os = w.os
  tape : w'.tape = w.tape
  output : w'.output = w.output
  size : w.heap.size ≤ w'.heap.size
  block : ∀ k, k < w.heap.size → k ≠ g → some k ≠ r → w'.heap[k]? = w.heap[k]?
theorem Two.refl (w : World) (g : Nat) (r : Option Nat) : Two w w g r := ⟨rfl, rfl, rfl, Nat.le_refl _, fun _ _ _ _ => rfl⟩
theorem Two.of_only {w w' : World} {g : Nat} (h : w.grownBy w' (some g)) (r : Option Nat) : Two w w' g r := ⟨h.os, h.tape, h.output, h.size, fun k hk hg _ => h.block k hk (fun e => hg (by injection e))⟩
theorem Two.of_row {w w' : World} {r : Option Nat} (h : w.grownBy w' r) (g : Nat) : Two w w' g r := ⟨h.os, h.tape, h.output, h.size, fun k hk _ hr => h.block k hk hr⟩
theorem Two.of_below {w w' : World} (h : Below w.heap.size w w') (g : Nat) (r : Option Nat) : Two w w' g r := ⟨h.os, h.tape, h.output, h.size, fun k hk _ _ => h.block k hk⟩
theorem Two.next {a b c : World} {g : Nat} {r r' : Option Nat} (h : Two a b g r) (k : Two b c g r') (hr : ∀ q, r' = some q → r = some q ∨ a.heap.size ≤ q) : Two a c g r :=
  ⟨k.os.trans h.os, k.tape.trans h.tape, k.output.trans h.output, Nat.le_trans h.size k.size, fun i hi hg hne => (k.block i (Nat.lt_of_lt_of_le hi h.size) hg (fun e => by
    rcases hr i e.symm with h1 | h1
    · exact hne h1.symm
    · omega)).trans (h.block i hi hg hne)⟩
theorem Two.trans {a b c : World} {g : Nat} {r : Option Nat} (h : Two a b g r) (k : Two b c g r) : Two a c g r := h.next k fun _ e => .inl e
theorem Two.drew {a b : World} {g : Nat} {r : Option Nat} (h : Two a b g r) : Two a b.drew g r := ⟨h.os, h.tape, h.output, h.size, h.block⟩
theorem Two.drewN {a b : World} {g : Nat} {r : Option Nat} (h : Two a b g r) (n : Nat) : Two a (b.drewN n) g r := ⟨h.os, h.tape, h.output, h.size, h.block⟩
theorem Two.only {w w' : World} {g : Nat} {r : Option Nat} (h : Two w w' g r) (hr : ∀ q, r = some q → w.heap.size ≤ q) : w.grownBy w' (some g) :=
  ⟨h.os, h.tape, h.output, h.size, fun k hk hg => h.block k hk (fun e => hg (by rw [e])) (fun e => by have := hr k e.symm; omega)⟩
theorem Two.blk {w w' : World} {g k : Nat} {r : Option Nat} {t : TypeId} {cs : Array Value} (h : Two w w' g r) (b : Blk w k t cs) (hg : k ≠ g) (hr : r ≠ some k) : Blk w' k t cs := (h.block k b.lt hg (Ne.symm hr)).trans b
theorem Two.alloc {a b : World} {g : Nat} {r : Option Nat} (h : Two a b g r) (o : Obj) : Two a (b.alloc o) g r :=
  h.trans (.of_below ((Below.refl _ _).alloc (Nat.le_refl _) o) g r)
theorem Two.set_ {a b : World} {g : Nat} {r : Option Nat} (h : Two a b g r) {p : Addr} (hp : p.block = g) (u : Value) : Two a (b.setCell p u) g r :=
  h.trans (.of_only (only_set (World.grownBy.refl _ _) hp u) r)
/-- What lies below the reader stays, if the row lies above it. -/
theorem Two.keep {w w' : World} {g : Nat} {r : Option Nat} (h : Two w w' g r) (hg : g < w.heap.size) (hr : ∀ q, r = some q → g ≤ q) : Below g w w' :=
  ⟨h.os, h.tape, h.output, h.size, fun k hk => h.block k (by omega) (by omega) (fun e => by have := hr k e.symm; omega)⟩

set_option maxHeartbeats 1000000 in
theorem piece_short (g : Nat) (A : Option Addr) (c : Nat) (xs : List Int) (p left m n : Int) (o : Bool) (v0 : Value) (w : World) (hR : Rdr w g A c xs p left) (hc : xs.length ≤ c) (hm : c ≤ maxLen) (h0 : 0 ≤ p) (h1 : p ≤ xs.length) (hn0 : 0 ≤ n) (hn : (xs.length : Int) - p < n) :
    Calls Tryd.prog 118 #[.pointer (some ⟨g, 0, none⟩), v0, .agg #[.int .i64 m, .int .u64 n, .bool o]] w fun e w' => e = fault 8 ∧ Below w.heap.size w w' := by
  have C1 := Lib.hid (need_err g A c xs p left n (w.alloc (.cells #[.int .i64 m, .int .u64 n, .bool o] 133)) (hR.alloc _) hc hm h0 h1 hn0 hn)
  clear hR
  go_enter Tryd.func118, Tryd.ntmps118
  go_wp2_with fail
  refine C1.out.mono ?_
  rintro e w1 ⟨rfl, q, rfl⟩
  unfold fault
  go_wp2_with fail
  exact ⟨rfl, rfl, below_drewNv ((Below.refl _ _).alloc (Nat.le_refl _) _) q⟩

theorem add_plain (b o k : Nat) : (⟨b, o, none⟩ : Addr).add k = ⟨b, o + k, none⟩ := by unfold Addr.add; split <;> simp_all
theorem chunk_length (xs : List Int) (pn nn : Nat) (h : pn + nn ≤ xs.length) : (chunk xs pn nn).length = nn := by simp [chunk]; omega
theorem chunk_bts (xs : List Int) (p n : Int) (h : St.bts xs) : St.bts (chunk xs p n) := fun x hx => h x (List.mem_of_mem_drop (List.mem_of_mem_take hx))
theorem chunk_lst {w : World} {B c : Nat} {A : Option Addr} {xs : List Int} (hs : Lst w B A (u8s xs)) (pn nn : Nat) (h : pn + nn ≤ xs.length) (hc : xs.length ≤ c) :
    Lst w B (if c = pn then A else Option.map (fun x => x.add pn) A) (u8s (chunk xs pn nn)) := by
  rcases Nat.eq_zero_or_pos nn with h0 | h0
  · subst h0
    exact .inl (by simp [chunk])
  · rw [if_neg (by omega)]
    obtain ⟨b, o, rfl, hb, hc⟩ := hs.bytes (k := pn) (by omega)
    have := Lst.piece (w := w) (w' := w) (B' := B) hc hb (fun _ _ => rfl) pn nn h
    simpa [add_plain, chunk] using this

set_option maxHeartbeats 1000000 in
theorem piece_bad (g : Nat) (A : Option Addr) (c : Nat) (xs : List Int) (p left m n : Int) (o : Bool) (v0 : Value) (w : World) (hR : Rdr w g A c xs p left) (hs : Lst w g A (u8s xs)) (hx : St.bts xs) (hc : xs.length ≤ c) (hm : c ≤ maxLen) (h0 : 0 ≤ p) (h1 : p ≤ xs.length) (hn0 : 0 ≤ n) (hn : ¬ (xs.length : Int) - p < n) (hT : Tabs w) (h3 : m = 3) (hu : U8.utf8 (chunk xs p n) = false) :
    Calls Tryd.prog 118 #[.pointer (some ⟨g, 0, none⟩), v0, .agg #[.int .i64 m, .int .u64 n, .bool o]] w fun e w' => e = fault 3 ∧ Below w.heap.size w w' := by
  subst h3
  have C1 := Lib.hid (need_ok g A c xs p left n (w.alloc (.cells #[.int .i64 3, .int .u64 n, .bool o] 133)) (hR.alloc _) hc hm h0 h1 hn0 hn)
  obtain ⟨pn, rfl⟩ := Int.eq_ofNat_of_zero_le h0
  obtain ⟨nn, rfl⟩ := Int.eq_ofNat_of_zero_le hn0
  have HR0 := Lib.hid (hR.alloc (.cells #[.int .i64 3, .int .u64 nn, .bool o] 133))
  have HK0 := Lib.hid (Blk.new w 133 #[.int .i64 3, .int .u64 nn, .bool o])
  have HB0 := Lib.hid ((Below.refl w.heap.size w).alloc (Nat.le_refl _) (.cells #[.int .i64 3, .int .u64 nn, .bool o] 133))
  have hnz : ¬ w.heap.size = g := by have := hR.lt; omega
  have hng : ¬ g = w.heap.size := by have := hR.lt; omega
  unfold maxLen at hm
  have hwp : IntKind.i64.wrap ((pn : Int) + (nn : Int)) = (pn : Int) + (nn : Int) := by rw [IntKind.wrap_i64]; omega
  have hwn : IntKind.i64.wrap (nn : Int) = (nn : Int) := by rw [IntKind.wrap_i64]; omega
  have b0 : (0 : Int) ≤ (pn : Int) := by omega
  have b1 : (pn : Int) ≤ (pn : Int) + (nn : Int) := by omega
  have b2 : (pn : Int) + (nn : Int) ≤ (c : Int) := by omega
  clear hR
  go_enter Tryd.func118, Tryd.ntmps118
  go_wp2_with fail
  refine C1.out.mono ?_
  rintro e w1 ⟨rfl, q, rfl⟩
  have hR1 : Rdr ((w.alloc (.cells #[.int .i64 3, .int .u64 nn, .bool o] 133)).drewN q) g A c xs pn left := HR0.out.drewN q
  have hK1 : Blk ((w.alloc (.cells #[.int .i64 3, .int .u64 nn, .bool o] 133)).drewN q) w.heap.size 133 #[.int .i64 3, .int .u64 nn, .bool o] := HK0.out.drewN q
  have HB1 := Lib.hid (below_drewNv HB0.out q)
  generalize (w.alloc (.cells #[.int .i64 3, .int .u64 nn, .bool o] 133)).drewN q = W1 at *
  obtain ⟨c0, c1, c2⟩ := hR1.cells
  have hf := hR1.frozen 1
  obtain ⟨k0, k1, k2⟩ := hK1.three
  have HR1 := Lib.hid hR1
  have HK1 := Lib.hid hK1
  clear hR1 hK1 C1
  go_wp2_with fail
  go_quiet (fail)
  have hlst := chunk_lst (c := c) (hs.below' (HB1.out) (by have := HR0.out.lt; simp at this; omega)) pn nn (by omega) hc
  have hcl := chunk_length xs pn nn (by omega)
  have hcb := chunk_bts xs pn nn hx
  generalize chunk xs pn nn = ch at *
  have HL2 := Lib.hid (hlst.keep (w' := W1.drewN nq) fun _ _ => rfl)
  have HR2 := Lib.hid (HR1.out.drewN nq)
  have HK2 := Lib.hid (HK1.out.drewN nq)
  have HB2 := Lib.hid (below_drewNv HB1.out nq)
  generalize W1.drewN nq = W2 at *
  obtain ⟨c0, c1, c2⟩ := HR2.out.cells
  have hf2 := HR2.out.frozen 1
  obtain ⟨k0, k1, k2⟩ := HK2.out.three
  clear hlst HR1 HK1 HB1 hf
  generalize (if c = pn then A else Option.map (fun x => x.add pn) A) = Ap at *
  have hpp : pn + nn - pn = ch.length := by omega
  have CU := Lib.hid ((hT.below HB2.out (Nat.le_refl _)).utf8 Ap g (c - pn) ch HL2.out (by have := HR2.out.lt; omega) hcb (by omega) (by unfold maxLen; omega))
  have HU := Lib.hid hu
  clear hu hcl b0 b1 b2 hn
  go_wp2_with fail
  refine CU.out.mono ?_
  rintro e w3 ⟨rfl, hb3⟩
  rw [HU.out]
  have HB3 := Lib.hid (below_next HB2.out HB2.out.size hb3)
  clear hb3
  go_wp2_with fail
  exact ⟨rfl, rfl, HB3.out⟩


set_option maxRecDepth 100000 in
set_option maxHeartbeats 2000000 in
theorem piece_ok (g base n0 : Nat) (A : Option Addr) (c : Nat) (xs acc : List Int) (p left m n : Int) (o : Bool) (v0 : Value) (w : World) (hR : Rdr w g A c xs p left) (hs : Lst w g A (u8s xs)) (hx : St.bts xs) (hc : xs.length ≤ c) (hm : c ≤ maxLen) (h0 : 0 ≤ p) (h1 : p ≤ xs.length) (hn0 : 0 ≤ n) (hn : ¬ (xs.length : Int) - p < n)
    (hT : Tabs w) (h3 : ¬ (m = 3 ∧ U8.utf8 (chunk xs p n) = false)) (hown : w.ownsRow base 5 1 v0 n0 (u8s acc)) (hgb : g < base) (hbase : base ≤ w.heap.size) (hlen : (n0 : Int) + n ≤ 100000000000000) :
    Calls Tryd.prog 118 #[.pointer (some ⟨g, 0, none⟩), v0, .agg #[.int .i64 m, .int .u64 n, .bool o]] w fun e w' => ∃ v1, e = .returned v1 ∧ Hid (w'.ownsRow base 5 1 v1 (n0 + n.toNat) (u8s (acc ++ chunk xs p n))) ∧ Hid (Rdr w' g A c xs (p + n) left) ∧
      Hid (Two w w' g v0.ownBlock) ∧ Hid (∀ q, v1.ownBlock = some q → v0.ownBlock = some q ∨ w.heap.size ≤ q) := by
  obtain ⟨i0, hi0, hz0, hz1, hz2⟩ := info_parts info_u8
  have C1 := Lib.hid (need_ok g A c xs p left n (w.alloc (.cells #[.int .i64 m, .int .u64 n, .bool o] 133)) (hR.alloc _) hc hm h0 h1 hn0 hn)
  obtain ⟨pn, rfl⟩ := Int.eq_ofNat_of_zero_le h0
  obtain ⟨nn, rfl⟩ := Int.eq_ofNat_of_zero_le hn0
  have HR0 := Lib.hid (hR.alloc (.cells #[.int .i64 m, .int .u64 nn, .bool o] 133))
  have HK0 := Lib.hid (Blk.new w 133 #[.int .i64 m, .int .u64 nn, .bool o])
  have HB0 := Lib.hid ((Below.refl w.heap.size w).alloc (Nat.le_refl _) (.cells #[.int .i64 m, .int .u64 nn, .bool o] 133))
  have hnz : ¬ w.heap.size = g := by have := hR.lt; omega
  have hng : ¬ g = w.heap.size := by have := hR.lt; omega
  unfold maxLen at hm
  have hwp : IntKind.i64.wrap ((pn : Int) + (nn : Int)) = (pn : Int) + (nn : Int) := by rw [IntKind.wrap_i64]; omega
  have hwn : IntKind.i64.wrap (nn : Int) = (nn : Int) := by rw [IntKind.wrap_i64]; omega
  have b0 : (0 : Int) ≤ (pn : Int) := by omega
  have b1 : (pn : Int) ≤ (pn : Int) + (nn : Int) := by omega
  have b2 : (pn : Int) + (nn : Int) ≤ (c : Int) := by omega
  clear hR
  go_enter Tryd.func118, Tryd.ntmps118
  go_wp2_with fail
  refine C1.out.mono ?_
  rintro e w1 ⟨rfl, q, rfl⟩
  have hR1 : Rdr ((w.alloc (.cells #[.int .i64 m, .int .u64 nn, .bool o] 133)).drewN q) g A c xs pn left := HR0.out.drewN q
  have hK1 : Blk ((w.alloc (.cells #[.int .i64 m, .int .u64 nn, .bool o] 133)).drewN q) w.heap.size 133 #[.int .i64 m, .int .u64 nn, .bool o] := HK0.out.drewN q
  have HB1 := Lib.hid (below_drewNv HB0.out q)
  generalize (w.alloc (.cells #[.int .i64 m, .int .u64 nn, .bool o] 133)).drewN q = W1 at *
  obtain ⟨c0, c1, c2⟩ := hR1.cells
  have hf := hR1.frozen 1
  obtain ⟨k0, k1, k2⟩ := hK1.three
  have HR1 := Lib.hid hR1
  have HK1 := Lib.hid hK1
  clear hR1 hK1 C1
  go_wp2_with fail
  go_quiet (fail)
  have hlst := chunk_lst (c := c) (hs.below' (HB1.out) (by have := HR0.out.lt; simp at this; omega)) pn nn (by omega) hc
  have hcl := chunk_length xs pn nn (by omega)
  have hcb := chunk_bts xs pn nn hx
  generalize hch : chunk xs pn nn = ch at *
  have HCH := Lib.hid hch
  clear hch
  have HL2 := Lib.hid (hlst.keep (w' := W1.drewN nq) fun _ _ => rfl)
  have HR2 := Lib.hid (HR1.out.drewN nq)
  have HK2 := Lib.hid (HK1.out.drewN nq)
  have HB2 := Lib.hid (below_drewNv HB1.out nq)
  generalize W1.drewN nq = W2 at *
  obtain ⟨c0, c1, c2⟩ := HR2.out.cells
  have hf2 := HR2.out.frozen 1
  obtain ⟨k0, k1, k2⟩ := HK2.out.three
  clear hlst HR1 HK1 HB1 hf
  generalize (if c = pn then A else Option.map (fun x => x.add pn) A) = Ap at *
  have hpp : pn + nn - pn = nn := by omega
  have HO2 := Lib.hid (own_later hown HB2.out)
  have HT2 := Lib.hid (hT.below HB2.out (Nat.le_refl _))
  have HH3 := Lib.hid h3
  have HCL := Lib.hid hcl
  have hlen2 : n0 + nn ≤ 100000000000000 := by omega
  have hMx : n0 + nn ≤ maxLen := by unfold maxLen; omega
  have hcm : nn ≤ c - pn := by omega
  have CU := Lib.hid (fun (hm : m = 3) => HT2.out.utf8 Ap g (c - pn) ch HL2.out (by have := HR2.out.lt; omega) hcb (by omega) (by unfold maxLen; omega))
  rw [hcl] at CU
  have CU2 := Lib.hid CU.out
  clear h3 hcl hown hT CU
  have hgb2 : g < w.heap.size := by omega
  have HL0 : Hid (∀ q, v0.ownBlock = some q → base ≤ q) := Lib.hid (fun q hq => (HO2.out.lt q hq).1)
  -- what is left behind the look at the text
  have main : ∀ W : World, Hid (Below w.heap.size w W) → Hid (Rdr W g A c xs pn left) → Hid (Lst W g Ap (u8s ch)) → Hid (W.ownsRow base 5 1 v0 n0 (u8s acc)) →
      Hid (Rdr (W.setCell ⟨g, 1, none⟩ (.int .i64 (pn + nn))) g A c xs (pn + nn) left) ∧ Hid ((W.setCell ⟨g, 1, none⟩ (.int .i64 (pn + nn))).ownsRow base 5 1 v0 n0 (u8s acc)) ∧ Hid (Lst (W.setCell ⟨g, 1, none⟩ (.int .i64 (pn + nn))) g Ap (u8s ch)) ∧ Hid (Two w (W.setCell ⟨g, 1, none⟩ (.int .i64 (pn + nn))) g v0.ownBlock) := fun W hB hR hL hO => by
    have hne : v0.ownBlock ≠ some g := fun e => by have := HL0.out g e; omega
    have hset : W.grownBy (W.setCell ⟨g, 1, none⟩ (.int .i64 (pn + nn))) (some g) := only_set (World.grownBy.refl _ _) rfl _
    refine ⟨Lib.hid ?_, Lib.hid ?_, Lib.hid ?_, Lib.hid ((Two.of_below hB.out g v0.ownBlock).set_ rfl _)⟩
    · have h := Wd.Blk.set_ (show Blk W g 154 #[.slice A xs.length c, .int .i64 pn, .int .i64 left] from hR.out) 1 (.int .i64 (pn + nn))
      simpa [Rdr] using h
    · exact hO.out.kept hset (.inr hne)
    · exact hL.out.keep fun q hq => World.cell?_setCell_other W _ q _ (fun e => by subst e; simp at hq)
  have HM := Lib.hid main
  clear main
  simp only [hpp]
  by_cases hm3 : m = 3
  · have hu : U8.utf8 ch = true := by
      cases h : U8.utf8 ch
      · exact absurd ⟨hm3, h⟩ HH3.out
      · rfl
    have HU := Lib.hid hu
    have C3 := CU2.out hm3
    subst hm3
    have HC3 := Lib.hid C3
    clear hu CU2 HH3 C3
    go_wp2_with fail
    refine HC3.out.mono ?_
    rintro e w3 ⟨rfl, hb3⟩
    rw [HU.out]
    obtain ⟨MR, MO, ML, MT⟩ := HM.out w3 (Lib.hid (below_next HB2.out HB2.out.size hb3)) (Lib.hid (HR2.out.below hb3)) (Lib.hid (HL2.out.below' hb3 (Nat.le_of_lt HR2.out.lt))) (Lib.hid (own_later HO2.out hb3))
    obtain ⟨c0, c1, c2⟩ := (HR2.out.below hb3).cells
    have hf2 := (HR2.out.below hb3).frozen 1
    clear hb3 HC3 HM
    go_wp2_with (first
      | (at_builtin
         refine wpList_append_lst _ rfl (.tmp 47) (.tmp 48) _ (by rfl) base 5 i0 _ 1 Tryd.underlying23 hi0 hz0 hz1 hz2 rfl v0 n0 (u8s acc) (by rfl) MO.out
           g Ap nn (c - pn) (u8s ch) (by rfl) (by simpa using HCL.out) ML.out (u8_one ch) hMx (by omega) (Nat.le_trans hbase MT.out.size) ?_
         intro v4 w4 hown4 hg4 hat4
         have HO4 := Lib.hid hown4
         have HT4 := Lib.hid (MT.out.trans (Two.of_row hg4 g))
         have HA4 : Hid (∀ q, v4.ownBlock = some q → v0.ownBlock = some q ∨ w.heap.size ≤ q) := Lib.hid (own_where (fun _ h => .inl h) hat4 MT.out.size)
         have HR4 := Lib.hid (CbWrite.Blk.grown MR.out hg4 (fun e => by have := HL0.out g e; omega))
         clear hown4 hg4 hat4))
    go_ret
    refine ⟨_, rfl, ?_, ?_, ?_, HA4⟩
    · exact Lib.hid (by simpa [u8s, HCH.out] using HO4.out)
    · exact HR4
    · exact HT4
  · have hm3b : (m == 3) = false := by simpa using hm3
    obtain ⟨MR, MO, ML, MT⟩ := HM.out W2 HB2 HR2 HL2 HO2
    clear HM hm3 CU2
    go_wp2_with (first
      | (at_builtin
         refine wpList_append_lst _ rfl (.tmp 47) (.tmp 48) _ (by rfl) base 5 i0 _ 1 Tryd.underlying23 hi0 hz0 hz1 hz2 rfl v0 n0 (u8s acc) (by rfl) MO.out
           g Ap nn (c - pn) (u8s ch) (by rfl) (by simpa using HCL.out) ML.out (u8_one ch) hMx (by omega) (Nat.le_trans hbase MT.out.size) ?_
         intro v4 w4 hown4 hg4 hat4
         have HO4 := Lib.hid hown4
         have HT4 := Lib.hid (MT.out.trans (Two.of_row hg4 g))
         have HA4 : Hid (∀ q, v4.ownBlock = some q → v0.ownBlock = some q ∨ w.heap.size ≤ q) := Lib.hid (own_where (fun _ h => .inl h) hat4 MT.out.size)
         have HR4 := Lib.hid (CbWrite.Blk.grown MR.out hg4 (fun e => by have := HL0.out g e; omega))
         clear hown4 hg4 hat4))
    go_ret
    refine ⟨_, rfl, ?_, ?_, ?_, HA4⟩
    · exact Lib.hid (by simpa [u8s, HCH.out] using HO4.out)
    · exact HR4
    · exact HT4
end Go.Proofs.YthknkdphofjmhaaDoor.CbPiece
/- The contract of the reader's bytes. -/
namespace Go.Proofs.YthknkdphofjmhaaDoor.CbBytes
open Go.RowKit Wd Cb CbCopy CbRight CbWrite CbHead CbPiece U8V
attribute [local go_sem ↓] Go.wp_at_zero Go.wp_at_succ

/-- What is read from: its bytes lie below the reader, and so do the tables of utf8. -/
structure Src (w : World) (g : Nat) (A : Option Addr) (c : Nat) (xs : List Int) : Prop where
  lst : Lst w g A (u8s xs)
  bts : St.bts xs
  cap : xs.length ≤ c
  max : c ≤ maxLen
  len : xs.length ≤ 100000000000
  tabs : Tabs w
  t1 : 1 < g
  t2 : 2 < g
theorem below_of_only {w w' : World} {g : Nat} (h : w.grownBy w' (some g)) (hg : g < w.heap.size) : Below g w w' := (Two.of_only h none).keep hg (fun _ e => by cases e)
theorem Src.below {w w' : World} {g : Nat} {A : Option Addr} {c : Nat} {xs : List Int} (h : Src w g A c xs) (hb : Below g w w') : Src w' g A c xs :=
  ⟨h.lst.below hb, h.bts, h.cap, h.max, h.len, ⟨⟨fun i hi => (hb.cell (p := ⟨1, i, none⟩) h.t1).trans (h.tabs.1.1 i hi),
    fun i hi => ⟨(hb.cell (p := ⟨2, 2 * i, none⟩) h.t2).trans (h.tabs.1.2 i hi).1, (hb.cell (p := ⟨2, 2 * i + 1, none⟩) h.t2).trans (h.tabs.1.2 i hi).2⟩⟩,
   Nat.lt_of_lt_of_le h.tabs.2.1 hb.size, Nat.lt_of_lt_of_le h.tabs.2.2 hb.size⟩, h.t1, h.t2⟩
theorem Src.only {w w' : World} {g : Nat} {A : Option Addr} {c : Nat} {xs : List Int} (h : Src w g A c xs) (hg : g < w.heap.size) (hb : w.grownBy w' (some g)) : Src w' g A c xs := h.below (below_of_only hb hg)
theorem Two.after {a w w' : World} {g : Nat} {r : Option Nat} (h : a.grownBy w (some g)) (k : Two w w' g r) (hr : ∀ q, r = some q → a.heap.size ≤ q) : a.grownBy w' (some g) :=
  ((Two.of_only h r).trans k).only hr

/-- What bytes answers, and what it leaves. -/
def BOut (w : World) (g : Nat) (A : Option Addr) (c : Nat) (xs : List Int) (p : Int) (e : Ending) (w' : World) : Res (List Int) → Prop
  | .err k => e = fault k ∧ Hid (w.grownBy w' (some g))
  | .ok b p' l' => ∃ A' c', e = .returned (.slice A' b.length c') ∧ b.length ≤ c' ∧ c' ≤ maxLen ∧ Hid (St.bts b) ∧ Hid (Seg w' w.heap.size w'.heap.size A' (u8s b)) ∧ Hid (Rdr w' g A c xs p' l') ∧ Hid (w.grownBy w' (some g)) ∧ p ≤ p' ∧ p' ≤ xs.length

theorem u8s_append (a b : List Int) : u8s (a ++ b) = u8s a ++ u8s b := by simp [u8s]
theorem nilRow (w : World) (base : Nat) (e : TypeId) (s : Nat) : w.ownsRow base e s (.slice none 0 0) 0 [] := ⟨by simp, .inl ⟨rfl, rfl⟩⟩

set_option maxHeartbeats 1000000 in
theorem bytes_closed (g : Nat) (A : Option Addr) (c : Nat) (xs : List Int) (p left m n : Int) (w : World) (hR : Rdr w g A c xs p left) (hS : Src w g A c xs) (h0 : 0 ≤ p) (h1 : p ≤ xs.length) (hn0 : 0 ≤ n) :
    Calls Tryd.prog 111 #[.pointer (some ⟨g, 0, none⟩), .agg #[.int .i64 m, .int .u64 n, .bool false]] w fun e w' => ∃ r, BodyR xs m n false p left r ∧ BOut w g A c xs p e w' r := by
  have hgl := hR.lt
  have hSa : Src (w.alloc (.cells #[.int .i64 m, .int .u64 n, .bool false] 133)) g A c xs := hS.below (((Below.refl _ _).alloc (Nat.le_refl _) _).mono (Nat.le_of_lt hgl))
  have HB0 := Lib.hid ((Below.refl w.heap.size w).alloc (Nat.le_refl _) (.cells #[.int .i64 m, .int .u64 n, .bool false] 133))
  have hz : (w.alloc (.cells #[.int .i64 m, .int .u64 n, .bool false] 133)).heap.size = w.heap.size + 1 := World.size_alloc _ _
  by_cases hn : (xs.length : Int) - p < n
  · have C1 := Lib.hid (piece_short g A c xs p left m n false (.slice none 0 0) _ (hR.alloc (.cells #[.int .i64 m, .int .u64 n, .bool false] 133)) hS.cap hS.max h0 h1 hn0 hn)
    have HP : Hid (piece xs [] m n p left = .err 8) := Lib.hid (by unfold piece; rw [if_pos hn])
    clear hn
    go_enter Tryd.func111, Tryd.ntmps111
    go_wp2_with fail
    refine C1.out.mono ?_
    rintro e w1 ⟨rfl, hb⟩
    unfold fault
    go_wp2_with fail
    exact ⟨rfl, .err 8, by simpa [BodyR] using HP.out, rfl, Lib.hid (only_below (HB0.out.trans (hb.mono (by omega))))⟩
  · by_cases h3 : m = 3 ∧ U8.utf8 (chunk xs p n) = false
    · have C1 := Lib.hid (piece_bad g A c xs p left m n false (.slice none 0 0) _ (hR.alloc (.cells #[.int .i64 m, .int .u64 n, .bool false] 133)) hSa.lst hS.bts hS.cap hS.max h0 h1 hn0 hn hSa.tabs h3.1 h3.2)
      have HP : Hid (piece xs [] m n p left = .err 3) := Lib.hid (by unfold piece; rw [if_neg hn, if_pos h3])
      clear hn h3
      go_enter Tryd.func111, Tryd.ntmps111
      go_wp2_with fail
      refine C1.out.mono ?_
      rintro e w1 ⟨rfl, hb⟩
      unfold fault
      go_wp2_with fail
      exact ⟨rfl, .err 3, by simpa [BodyR] using HP.out, rfl, Lib.hid (only_below (HB0.out.trans (hb.mono (by omega))))⟩
    · have hlen := hS.len
      have C1 := Lib.hid (piece_ok g (w.heap.size + 1) 0 A c xs [] p left m n false (.slice none 0 0) _ (hR.alloc (.cells #[.int .i64 m, .int .u64 n, .bool false] 133)) hSa.lst hS.bts hS.cap hS.max h0 h1 hn0 hn hSa.tabs h3 (nilRow _ _ _ _) (by omega) (by rw [hz]; omega) (by omega))
      have HP : Hid (piece xs [] m n p left = .ok ([] ++ chunk xs p n) (p + n) left) := Lib.hid (by unfold piece; rw [if_neg hn, if_neg h3])
      have HL : Hid ((chunk xs p n).length = n.toNat) := Lib.hid (by unfold chunk; simp; omega)
      have hpn : p + n ≤ xs.length := by omega
      clear hn h3
      go_enter Tryd.func111, Tryd.ntmps111
      go_wp2_with fail
      refine C1.out.mono ?_
      rintro e w1 ⟨v1, rfl, HO, HR1, HT, HA⟩
      obtain ⟨A1, c1, rfl, hc1, hm1⟩ := own_sl HO.out
      have hsz := HT.out.size
      go_wp2_with fail
      go_ret
      refine ⟨.ok (chunk xs p n) (p + n) left, by simpa [BodyR] using HP.out, A1, c1, by rw [HL.out]; simp, by rw [HL.out]; omega, hm1, Lib.hid (chunk_bts xs p n hS.bts), Lib.hid ?_, HR1, Lib.hid (Two.after (only_below HB0.out) HT.out (by simp [Value.ownBlock])), by omega, hpn⟩
      exact (Seg.of_own HO.out).more (by omega) (Nat.le_refl _)

/-- A box of three cells is written anew: what lies elsewhere stays. -/
theorem blk_set3 {w : World} {k : Nat} {t : TypeId} {x y z : Value} (h : Blk w k t #[x, y, z]) (a b c : Value) : Blk (((w.setCell ⟨k, 0, none⟩ a).setCell ⟨k, 1, none⟩ b).setCell ⟨k, 2, none⟩ c) k t #[a, b, c] := by
  simpa using ((h.set_ 0 a).set_ 1 b).set_ 2 c
theorem blk_far3 {w : World} {k r : Nat} {t : TypeId} {cs : Array Value} (h : Blk w r t cs) (hr : r ≠ k) (a b c : Value) : Blk (((w.setCell ⟨k, 0, none⟩ a).setCell ⟨k, 1, none⟩ b).setCell ⟨k, 2, none⟩ c) r t cs :=
  ((h.far (p := ⟨k, 0, none⟩) hr a).far (p := ⟨k, 1, none⟩) hr b).far (p := ⟨k, 2, none⟩) hr c

/-- The state at the head of the loop over pieces. -/
theorem chunks_start {xs : List Int} {m n left p : Int} {acc : List Int} {q : Int} (h : ∀ r, ChunksR xs m left acc q r → ChunksR xs m left [] p r) {r : Res (List Int)} (k : ChunksR xs m left acc q r) : BodyR xs m n true p left r := by
  simpa [BodyR] using h r k

set_option maxRecDepth 100000 in
set_option maxHeartbeats 2000000 in
theorem bytes_open (g : Nat) (A : Option Addr) (c : Nat) (xs : List Int) (p left m n : Int) (w : World) (hR : Rdr w g A c xs p left) (hS : Src w g A c xs) :
    Calls Tryd.prog 111 #[.pointer (some ⟨g, 0, none⟩), .agg #[.int .i64 m, .int .u64 n, .bool true]] w fun e w' => ∃ r, BodyR xs m n true p left r ∧ BOut w g A c xs p e w' r := by
  have hgl := hR.lt
  have hSa : Src (w.alloc (.cells #[.int .i64 m, .int .u64 n, .bool true] 133)) g A c xs := hS.below (((Below.refl _ _).alloc (Nat.le_refl _) _).mono (Nat.le_of_lt hgl))
  have HB0 := Lib.hid ((Below.refl w.heap.size w).alloc (Nat.le_refl _) (.cells #[.int .i64 m, .int .u64 n, .bool true] 133))
  have HK0 := Lib.hid (Blk.new w 133 #[.int .i64 m, .int .u64 n, .bool true])
  have hz : (w.alloc (.cells #[.int .i64 m, .int .u64 n, .bool true] 133)).heap.size = w.heap.size + 1 := World.size_alloc _ _
  have HRa := Lib.hid (hR.alloc (.cells #[.int .i64 m, .int .u64 n, .bool true] 133))
  have HS := Lib.hid hS
  have HSa := Lib.hid hSa
  have HZ := Lib.hid hz
  clear hR hS hSa hz
  generalize hrd : HeadP.read xs p = rd
  obtain ⟨m1, n1, o1, j1, e1⟩ := rd
  by_cases he1 : e1 = 0
  · subst he1
    have C1 := Lib.hid (head_ok g A c xs p left m1 n1 j1 o1 _ HRa.out HSa.out.lst HSa.out.bts HSa.out.cap HSa.out.max hrd)
    have HRD := Lib.hid hrd
    clear hrd
    go_enter Tryd.func111, Tryd.ntmps111
    go_wp2_with fail
    refine C1.out.mono ?_
    rintro e w1 ⟨rfl, HG1, HR1⟩
    go_wp2_with fail
    have HO1 := Lib.hid (nilRow (w1.alloc (.cells #[.int .i64 m1, .int .u64 n1, .bool o1] 133)) (w.heap.size + 1) 5 1)
    have HP1 := Lib.hid (Blk.new w1 133 #[.int .i64 m1, .int .u64 n1, .bool o1])
    have HR1a := Lib.hid (HR1.out.alloc (.cells #[.int .i64 m1, .int .u64 n1, .bool o1] 133))
    have HG1a := Lib.hid (only_alloc (only_trans (only_below HB0.out) HG1.out) (.cells #[.int .i64 m1, .int .u64 n1, .bool o1] 133))
    have HK1 := Lib.hid ((CbWrite.Blk.grown HK0.out HG1.out (by simp; omega)).alloc (.cells #[.int .i64 m1, .int .u64 n1, .bool o1] 133))
    have hz1 : (w1.alloc (.cells #[.int .i64 m1, .int .u64 n1, .bool o1] 133)).heap.size = w1.heap.size + 1 := World.size_alloc _ _
    have hz0 : w.heap.size < w1.heap.size := by have := HG1.out.size; have := HZ.out; omega
    have hk1 : w1.heap.size < (w1.alloc (.cells #[.int .i64 m1, .int .u64 n1, .bool o1] 133)).heap.size := by omega
    generalize w1.heap.size = k1 at *
    generalize w1.alloc (.cells #[.int .i64 m1, .int .u64 n1, .bool o1] 133) = W1 at *
    have hrb := HeadP.read_ok xs p HS.out.bts m1 n1 o1 j1 HRD.out
    clear hz1 HR1 HG1 HB0 HK0 HRa HSa
    go_loopg [5, 6] (xs.length - j1.toNat) (fun gk v pv wr => ∃ (acc : List Int) (k : Nat) (m2 n2 : Int) (o2 : Bool) (q j2 : Int), gk = xs.length - j2.toNat ∧ pv = .pointer (some ⟨k, 0, none⟩) ∧ w.heap.size < k ∧ k < wr.heap.size ∧ p ≤ q ∧ (acc.length : Int) ≤ q ∧ 0 ≤ q ∧ q < j2 ∧ j2 ≤ xs.length ∧ 0 ≤ n2 ∧
      Hid (HeadP.read xs q = (m2, n2, o2, j2, 0)) ∧ Hid (∀ r, ChunksR xs m left acc q r → ChunksR xs m left [] p r) ∧ Hid (∃ vv, vv = v ∧ wr.ownsRow (w.heap.size + 1) 5 1 vv acc.length (u8s acc)) ∧ Hid (Blk wr k 133 #[.int .i64 m2, .int .u64 n2, .bool o2]) ∧ Hid (Rdr wr g A c xs j2 left) ∧
      Hid (w.grownBy wr (some g)) ∧ Hid (Blk wr w.heap.size 133 #[.int .i64 m, .int .u64 n, .bool true]) ∧ Hid (St.bts acc))
    case atStart => exact ⟨[], k1, m1, n1, o1, p, j1, rfl, rfl, hz0, hk1, by omega, by simp; omega, by omega, by omega, by omega, by omega, HRD, Lib.hid (fun _ h => h), Lib.hid ⟨_, rfl, HO1.out⟩, HP1, HR1a, HG1a, HK1, Lib.hid (by intro x hx; cases hx)⟩
    case round =>
      obtain ⟨acc, k, m2, n2, o2, q, j2, hgk, rfl, hk0, hk1, hpq, haq, hq0, hqj, hjx, hn2, HRD2, HCH, ⟨vv, rfl, hO⟩, HP, HR2, HG2, HK2, HBT⟩ := hrel
      have HO := Lib.hid hO
      clear HO1 HP1 HR1a HG1a HK1 hO
      have hSr : Src wr g A c xs := HS.out.only hgl HG2.out
      have hszr := HG2.out.size
      obtain ⟨p0c, p1c, p2c⟩ := HP.out.three
      have C2 := Lib.hid (ends_any m2 n2 o2 wr)
      have HSR := Lib.hid hSr
      clear hSr
      go_wp2_with fail
      refine C2.out.mono ?_
      rintro e w2 ⟨rfl, hb2⟩
      have HPb := Lib.hid (HP.out.next hb2)
      have HRb := Lib.hid (HR2.out.below hb2)
      have HGb := Lib.hid (only_trans HG2.out (only_below hb2))
      have HKb := Lib.hid (HK2.out.next hb2)
      have HOb := Lib.hid (own_later HO.out hb2)
      have HSb := Lib.hid (HSR.out.below (hb2.mono (by omega)))
      have hsz2 := hb2.size
      clear hb2 C2 HP HR2 HG2 HK2 HO HSR p0c p1c p2c
      obtain ⟨p0c, p1c, p2c⟩ := HPb.out.three
      obtain ⟨q0c, q1c, q2c⟩ := HKb.out.three
      cases he : ends m2 n2 o2
      · have HE := Lib.hid he
        clear he
        cases o2
        · by_cases hm : m2 = m
          · subst hm
            have hmb : (m2 != m2) = false := by simp
            have hj0 : 0 ≤ j2 := by omega
            by_cases hn : (xs.length : Int) - j2 < n2
            · have C3 := Lib.hid (piece_short g A c xs j2 left m2 n2 false vv w2 HRb.out HSb.out.cap HSb.out.max hj0 hjx hn2 hn)
              have HC : Hid (BodyR xs m2 n true p left (.err 8)) := Lib.hid (by
                have := HCH.out (.err 8) (.cut HRD2.out (by unfold piece; rw [if_pos hn]))
                simpa [BodyR] using this)
              clear hn
              go_wp2_with fail
              refine C3.out.mono ?_
              rintro e w3 ⟨rfl, hb3⟩
              unfold fault
              go_wp2_with fail
              exact ⟨rfl, .err 8, HC.out, rfl, Lib.hid (only_trans HGb.out (only_below hb3))⟩
            · by_cases h3 : m2 = 3 ∧ U8.utf8 (chunk xs j2 n2) = false
              · have C3 := Lib.hid (piece_bad g A c xs j2 left m2 n2 false vv w2 HRb.out HSb.out.lst HSb.out.bts HSb.out.cap HSb.out.max hj0 hjx hn2 hn HSb.out.tabs h3.1 h3.2)
                have HC : Hid (BodyR xs m2 n true p left (.err 3)) := Lib.hid (by
                  have := HCH.out (.err 3) (.cut HRD2.out (by unfold piece; rw [if_neg hn, if_pos h3]))
                  simpa [BodyR] using this)
                clear hn h3
                go_wp2_with fail
                refine C3.out.mono ?_
                rintro e w3 ⟨rfl, hb3⟩
                unfold fault
                go_wp2_with fail
                exact ⟨rfl, .err 3, HC.out, rfl, Lib.hid (only_trans HGb.out (only_below hb3))⟩
              · have hlen := HSb.out.len
                have C3 := Lib.hid (piece_ok g (w.heap.size + 1) acc.length A c xs acc j2 left m2 n2 false vv w2 HRb.out HSb.out.lst HSb.out.bts HSb.out.cap HSb.out.max hj0 hjx hn2 hn HSb.out.tabs h3 HOb.out (by omega) (by omega) (by omega))
                have HCH3 : Hid (∀ r, ChunksR xs m2 left (acc ++ chunk xs j2 n2) (j2 + n2) r → ChunksR xs m2 left [] p r) := Lib.hid (fun r h => HCH.out r (.more HRD2.out (by unfold piece; rw [if_neg hn, if_neg h3]) h))
                have HL : Hid ((chunk xs j2 n2).length = n2.toNat) := Lib.hid (by unfold chunk; simp; omega)
                have HBT3 : Hid (St.bts (acc ++ chunk xs j2 n2)) := Lib.hid (fun x hx => by
                  rcases List.mem_append.1 hx with hx | hx
                  · exact HBT.out x hx
                  · exact chunk_bts xs j2 n2 HSb.out.bts x hx)
                have hjn : j2 + n2 ≤ xs.length := by omega
                clear hn h3
                go_wp2_with fail
                refine C3.out.mono ?_
                rintro e w3 ⟨v3, rfl, HO3, HR3, HT3, HA3⟩
                have hob : ∀ r, vv.ownBlock = some r → w.heap.size + 1 ≤ r := fun r hr => (HOb.out.lt r hr).1
                have hkv : vv.ownBlock ≠ some k := own_blk_ne HOb.out HPb.out (by decide)
                have HP3 := Lib.hid (HT3.out.blk HPb.out (by omega) hkv)
                have HK3 := Lib.hid (HT3.out.blk HKb.out (by omega) (fun e => by have := hob _ e; omega))
                have HG3 := Lib.hid (Two.after HGb.out HT3.out (fun r hr => by have := hob r hr; omega))
                have HS3 := Lib.hid (HSb.out.below (HT3.out.keep (by omega) (fun r hr => by have := hob r hr; omega)))
                have hsz3 := HT3.out.size
                clear C3 HPb HKb HGb HSb HT3 HRb HOb hob hkv HA3 p0c p1c p2c q0c q1c q2c
                obtain ⟨p0c, p1c, p2c⟩ := HP3.out.three
                have HR3a := Lib.hid (HR3.out.alloc (.cells #[.int .i64 m2, .int .u64 n2, .bool false] 133))
                have HS3a := Lib.hid (HS3.out.below (((Below.refl w3.heap.size w3).alloc (Nat.le_refl _) (.cells #[.int .i64 m2, .int .u64 n2, .bool false] 133)).mono (by omega)))
                have HP3a := Lib.hid (Blk.new w3 133 #[.int .i64 m2, .int .u64 n2, .bool false])
                have HK3a := Lib.hid (HK3.out.alloc (.cells #[.int .i64 m2, .int .u64 n2, .bool false] 133))
                have HG3a := Lib.hid (only_alloc HG3.out (.cells #[.int .i64 m2, .int .u64 n2, .bool false] 133))
                have HO3a := Lib.hid (own_later HO3.out ((Below.refl w3.heap.size w3).alloc (Nat.le_refl _) (.cells #[.int .i64 m2, .int .u64 n2, .bool false] 133)))
                have hz3 : (w3.alloc (.cells #[.int .i64 m2, .int .u64 n2, .bool false] 133)).heap.size = w3.heap.size + 1 := World.size_alloc _ _
                have hv3 : ∀ r, v3.ownBlock = some r → r < w3.heap.size := fun r hr => (HO3.out.lt r hr).2
                have HV3 := Lib.hid hv3
                have HLc : Hid ((acc ++ chunk xs j2 n2).length = acc.length + n2.toNat) := Lib.hid (by rw [List.length_append, HL.out])
                clear hv3
                generalize hrd4 : HeadP.read xs (j2 + n2) = rd4
                obtain ⟨m4, n4, o4, j4, e4⟩ := rd4
                by_cases he4 : e4 = 0
                · subst he4
                  have C4 := Lib.hid (head_ok g A c xs (j2 + n2) left m4 n4 j4 o4 _ HR3a.out HS3a.out.lst HS3a.out.bts HS3a.out.cap HS3a.out.max hrd4)
                  have hrb4 := HeadP.read_ok xs (j2 + n2) HS.out.bts m4 n4 o4 j4 hrd4
                  have HRD4 := Lib.hid hrd4
                  clear hrd4
                  go_wp2_with fail
                  have hzk : ∀ q, v3.ownBlock = some q → q ≠ w3.heap.size := fun q hq => by have := HV3.out q hq; omega
                  have HZK := Lib.hid hzk
                  have hov : ∀ q, v3.ownBlock = some q → w.heap.size + 1 ≤ q := fun q hq => (HO3.out.lt q hq).1
                  have HOV := Lib.hid hov
                  clear hzk hov HV3 HO3 HR3 HP3 HK3 HG3 HS3 p0c p1c p2c
                  have hk3 : w.heap.size < w3.heap.size := by omega
                  generalize w3.heap.size = k3 at *
                  generalize w3.alloc (.cells #[.int .i64 m2, .int .u64 n2, .bool false] 133) = W3 at *
                  refine C4.out.mono ?_
                  rintro e w4 ⟨rfl, HG4, HR4⟩
                  have HP4 := Lib.hid (CbWrite.Blk.grown HP3a.out HG4.out (by simp; omega))
                  have HK4 := Lib.hid (CbWrite.Blk.grown HK3a.out HG4.out (by simp; omega))
                  have HO4 := Lib.hid (HO3a.out.kept HG4.out (.inr (fun e => by have := HOV.out g e; omega)))
                  have hsz4 := HG4.out.size
                  have HG4a := Lib.hid (only_trans HG3a.out HG4.out)
                  obtain ⟨p0c, p1c, p2c⟩ := HP4.out.three
                  have f0 := HP4.out.frozen 0
                  have f1 := HP4.out.frozen 1
                  have f2 := HP4.out.frozen 2
                  clear C4 HG4 HP3a HK3a HO3a HR3a HS3a HG3a
                  go_wp2_with fail
                  go_roundg (xs.length - j4.toNat)
                  case measure => omega
                  case rel =>
                    refine ⟨acc ++ chunk xs j2 n2, k3, m4, n4, o4, j2 + n2, j4, rfl, rfl, hk3, ?_, by omega, ?_, by omega, by omega, by omega, by omega, HRD4, HCH3, Lib.hid ⟨_, rfl, ?_⟩, Lib.hid (blk_set3 HP4.out _ _ _), Lib.hid (blk_far3 HR4.out (by omega) _ _ _), Lib.hid (only_own HG4a.out (only_set3 (World.grownBy.refl _ _) _ _ _) (by omega)), Lib.hid (blk_far3 HK4.out (by omega) _ _ _), HBT3⟩
                    · simp [World.setCell]; omega
                    · rw [HLc.out]; omega
                    · rw [HLc.out]
                      exact HO4.out.kept (only_set3 (World.grownBy.refl w4 (some k3)) _ _ _) (.inr (fun e => HZK.out _ e rfl))
                · have C4 := Lib.hid (head_err g A c xs (j2 + n2) left m4 n4 j4 e4 o4 _ HR3a.out HS3a.out.lst HS3a.out.bts HS3a.out.cap HS3a.out.max hrd4 he4)
                  have HC : Hid (BodyR xs m2 n true p left (.err e4)) := Lib.hid (by
                    have := HCH3.out (.err e4) (.bad hrd4 he4)
                    simpa [BodyR] using this)
                  clear hrd4 he4
                  go_wp2_with fail
                  refine C4.out.mono ?_
                  rintro e w4 ⟨rfl, HG4⟩
                  unfold fault
                  go_wp2_with fail
                  exact ⟨rfl, .err e4, HC.out, rfl, Lib.hid (only_trans HG3a.out HG4.out)⟩
          · have hmb : (m2 != m) = true := by simpa using hm
            go_wp2_with fail
            have hc := HCH.out (.err 3) (.form HRD2.out HE.out (.inr hm))
            exact ⟨rfl, .err 3, by simpa [BodyR] using hc, rfl, HGb⟩
        · go_wp2_with fail
          have hc := HCH.out (.err 3) (.form HRD2.out HE.out (.inl rfl))
          exact ⟨rfl, .err 3, by simpa [BodyR] using hc, rfl, HGb⟩
      · have HE := Lib.hid he
        clear he
        obtain ⟨A1, c1, rfl, hc1, hm1⟩ := own_sl HOb.out
        go_wp2_with fail
        go_ret
        have hc := HCH.out _ (.stop HRD2.out HE.out)
        refine ⟨.ok acc j2 left, by simpa [BodyR] using hc, A1, c1, rfl, hc1, hm1, HBT, Lib.hid ((Seg.of_own HOb.out).more (by omega) (Nat.le_refl _)), HRb, HGb, by omega, hjx⟩
  · have C1 := Lib.hid (head_err g A c xs p left m1 n1 j1 e1 o1 _ HRa.out HSa.out.lst HSa.out.bts HSa.out.cap HSa.out.max hrd he1)
    have HC : Hid (BodyR xs m n true p left (.err e1)) := Lib.hid (by simpa [BodyR] using ChunksR.bad hrd he1)
    clear hrd he1
    go_enter Tryd.func111, Tryd.ntmps111
    go_wp2_with fail
    refine C1.out.mono ?_
    rintro e w1 ⟨rfl, HG1⟩
    unfold fault
    go_wp2_with fail
    exact ⟨rfl, _, HC.out, rfl, Lib.hid (only_trans (only_below HB0.out) HG1.out)⟩
theorem bytes_any (g : Nat) (A : Option Addr) (c : Nat) (xs : List Int) (p left m n : Int) (o : Bool) (w : World) (hR : Rdr w g A c xs p left) (hS : Src w g A c xs) (h0 : 0 ≤ p) (h1 : p ≤ xs.length) (hn0 : 0 ≤ n) :
    Calls Tryd.prog 111 #[.pointer (some ⟨g, 0, none⟩), .agg #[.int .i64 m, .int .u64 n, .bool o]] w fun e w' => ∃ r, BodyR xs m n o p left r ∧ BOut w g A c xs p e w' r := by
  cases o
  · exact bytes_closed g A c xs p left m n w hR hS h0 h1 hn0
  · exact bytes_open g A c xs p left m n w hR hS
end Go.Proofs.YthknkdphofjmhaaDoor.CbBytes
