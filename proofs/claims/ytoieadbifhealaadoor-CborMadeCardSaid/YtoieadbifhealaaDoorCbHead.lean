/- The contracts of the reader's small methods: head, ends, need. -/
import Derived.Test.YtoieadbifhealaaDoorCbWrite
import Derived.Test.YtoieadbifhealaaDoorReadP
import Derived.Test.YtoieadbifhealaaDoorHeadR
import Derived.WalkLawsBesides
import Derived.Deep.CutBlock
namespace Go.Proofs.YtoieadbifhealaaDoor.CbHead
open Go.RowKit Wd Cb CbCopy CbRight CbWrite
attribute [local go_sem ↓] Go.wp_at_zero Go.wp_at_succ

/-- The reader in its block. -/
def Rdr (w : World) (g : Nat) (A : Option Addr) (c : Nat) (xs : List Int) (p left : Int) : Prop := Blk w g 88 #[.slice A xs.length c, .int .i64 p, .int .i64 left]
/-- A panic with an error's number. -/
def fault (e : Int) : Ending := .panicked [{ v := .iface 33 (.int .i64 e), recovered := false }]

theorem Rdr.lt {w : World} {g : Nat} {A : Option Addr} {c : Nat} {xs : List Int} {p left : Int} (h : Rdr w g A c xs p left) : g < w.heap.size := Blk.lt h
theorem Rdr.below {w w' : World} {g : Nat} {A : Option Addr} {c : Nat} {xs : List Int} {p left : Int} (h : Rdr w g A c xs p left) (hb : Below w.heap.size w w') : Rdr w' g A c xs p left := Blk.next h hb
theorem Rdr.alloc {w : World} {g : Nat} {A : Option Addr} {c : Nat} {xs : List Int} {p left : Int} (h : Rdr w g A c xs p left) (o : Obj) : Rdr (w.alloc o) g A c xs p left := Blk.alloc h o
theorem Rdr.drew {w : World} {g : Nat} {A : Option Addr} {c : Nat} {xs : List Int} {p left : Int} (h : Rdr w g A c xs p left) : Rdr w.drew g A c xs p left := h
theorem Rdr.drewN {w : World} {g : Nat} {A : Option Addr} {c : Nat} {xs : List Int} {p left : Int} (h : Rdr w g A c xs p left) (k : Nat) : Rdr (w.drewN k) g A c xs p left := h
theorem Rdr.cells {w : World} {g : Nat} {A : Option Addr} {c : Nat} {xs : List Int} {p left : Int} (h : Rdr w g A c xs p left) :
    w.cell? ⟨g, 0, none⟩ = some (.slice A xs.length c) ∧ w.cell? ⟨g, 1, none⟩ = some (.int .i64 p) ∧ w.cell? ⟨g, 2, none⟩ = some (.int .i64 left) :=
  ⟨by simpa using Blk.cell h 0, by simpa using Blk.cell h 1, by simpa using Blk.cell h 2⟩
theorem Rdr.frozen {w : World} {g : Nat} {A : Option Addr} {c : Nat} {xs : List Int} {p left : Int} (h : Rdr w g A c xs p left) (i : Nat) : w.frozen? ⟨g, i, none⟩ = false := Blk.frozen h i

theorem only_set3 {a w : World} {g : Nat} (h : a.grownBy w (some g)) (x y z : Value) : a.grownBy (((w.setCell ⟨g, 0, none⟩ x).setCell ⟨g, 1, none⟩ y).setCell ⟨g, 2, none⟩ z) (some g) :=
  only_set (p := ⟨g, 2, none⟩) (only_set (p := ⟨g, 1, none⟩) (only_set (p := ⟨g, 0, none⟩) h rfl x) rfl y) rfl z
theorem only_set4 {a w : World} {g : Nat} (h : a.grownBy w (some g)) (x y z u : Value) : a.grownBy ((((w.setCell ⟨g, 0, none⟩ x).setCell ⟨g, 1, none⟩ y).setCell ⟨g, 2, none⟩ z).setCell ⟨g, 3, none⟩ u) (some g) :=
  only_set (p := ⟨g, 3, none⟩) (only_set3 h x y z) rfl u
/-- A store into a block of one's own is none of the others' business. -/
theorem only_own {a w w' : World} {g b : Nat} (h : a.grownBy w (some g)) (k : w.grownBy w' (some b)) (hb : a.heap.size ≤ b) : a.grownBy w' (some g) :=
  own_next h k (fun q hq => by injection hq with hq; exact .inr (by omega))

theorem ends_any (m n : Int) (o : Bool) (w : World) : Calls Tryd.prog 96 #[.agg #[.int .i64 m, .int .u64 n, .bool o]] w fun e w' => e = .returned (.bool (ends m n o)) ∧ Below w.heap.size w w' := by
  go_enter Tryd.func96, Tryd.ntmps96
  go_wp2_with fail
  all_goals go_ret
  all_goals exact ⟨ret_bool (by simp [ends, *]), (Below.refl _ _).alloc (Nat.le_refl _) _⟩

theorem read_tuple (A : Option Addr) (B c : Nat) (xs : List Int) (p m n j e : Int) (o : Bool) (w : World) (hs : Lst w B A (u8s xs)) (hB : B ≤ w.heap.size) (hx : St.bts xs) (hc : xs.length ≤ c) (hm : c ≤ maxLen) (hr : HeadP.read xs p = (m, n, o, j, e)) :
    Calls Tryd.prog 81 #[.slice A xs.length c, .int .i64 p] w fun e' w' => e' = .returned (.tuple #[.agg #[.int .i64 m, .int .u64 n, .bool o], .int .i64 j, .int .i64 e]) ∧ Below w.heap.size w w' :=
  (HeadR.read_any A B c xs p w hs hB hx hc hm).mono fun e' w' ⟨h1, h2⟩ => ⟨by rw [h1, hr]; rfl, h2⟩

set_option maxHeartbeats 1000000 in
theorem head_ok (g : Nat) (A : Option Addr) (c : Nat) (xs : List Int) (p left m n j : Int) (o : Bool) (w : World) (hR : Rdr w g A c xs p left) (hs : Lst w g A (u8s xs)) (hx : St.bts xs) (hc : xs.length ≤ c) (hm : c ≤ maxLen) (hr : HeadP.read xs p = (m, n, o, j, 0)) :
    Calls Tryd.prog 53 #[.pointer (some ⟨g, 0, none⟩)] w fun e w' => e = .returned (.agg #[.int .i64 m, .int .u64 n, .bool o]) ∧ Hid (w.grownBy w' (some g)) ∧ Hid (Rdr w' g A c xs j left) := by
  obtain ⟨c0, c1, c2⟩ := hR.cells
  have C1 := Lib.hid (fun (W : World) (hW : Below w.heap.size w W) => read_tuple A g c xs p m n j 0 o W (hs.below (hW.mono (Nat.le_of_lt hR.lt))) (by have := hW.size; have := hR.lt; omega) hx hc hm hr)
  have KC := Lib.hid (fun (W : World) (hW : Below w.heap.size w W) => And.intro ((hR.below hW).cells.1) ((hR.below hW).cells.2.1))
  have HB0 := Lib.hid ((Below.refl w.heap.size w).alloc (Nat.le_refl _) (.cells #[.int .i64 0, .int .u64 0, .bool false] 90))
  have HR := Lib.hid hr
  have HRd := Lib.hid hR
  clear hr hR
  go_enter Tryd.func53, Tryd.ntmps53
  go_upto_region 1 with (fail)
  go_cut [3, 4, 5] from 6 to 18 (fun q a b wx => ∃ k : Nat, q = .pointer (some ⟨k, 0, none⟩) ∧ a = .int .i64 j ∧ b = .int .i64 0 ∧ w.heap.size < k ∧ Hid (Blk wx k 90 #[.int .i64 m, .int .u64 n, .bool o]) ∧ Hid (Blk wx w.heap.size 90 #[.int .i64 0, .int .u64 0, .bool false]) ∧ Hid (Below w.heap.size w wx))
  case first =>
    have HK0 := Lib.hid (Blk.new w 90 #[.int .i64 0, .int .u64 0, .bool false])
    have hz0 : (w.alloc (.cells #[.int .i64 0, .int .u64 0, .bool false] 90)).heap.size = w.heap.size + 1 := World.size_alloc _ _
    generalize w.alloc (.cells #[.int .i64 0, .int .u64 0, .bool false] 90) = W0 at *
    have HB0d := Lib.hid HB0.out.drew
    have HBa := Lib.hid ((HB0.out.alloc HB0.out.size (.cells #[.int .i64 0, .int .u64 0, .bool false] 90)).drew)
    have HKa := Lib.hid ((HK0.out.alloc (.cells #[.int .i64 0, .int .u64 0, .bool false] 90)).drew)
    have HKz := Lib.hid ((Blk.new W0 90 #[.int .i64 0, .int .u64 0, .bool false]).drew)
    have HZ0 := Lib.hid hz0
    clear hz0 c0 c1 c2
    go_region_held3 (fun w' => w'.cell? ⟨g, 0, none⟩ = some (.slice A xs.length c) ∧ w'.cell? ⟨g, 1, none⟩ = some (.int .i64 p))
      (first | exact KC.out _ HB0d.out | exact KC.out _ HBa.out | exact KC.out _ HB1.out | exact KC.out _ (HB1.out.alloc HB1.out.size _) | exact KC.out _ (below_set3 HB1.out (by have := HZ0.out; omega) _ _ _))
      (first | (go_at_call 81; first | (refine (C1.out _ HB0d.out).mono ?_; rintro e w1 ⟨rfl, hb1⟩; have HB1 := Lib.hid (below_next HB0d.out HB0d.out.size hb1); have HK1 := Lib.hid (HK0.out.drew.next hb1); clear hb1) | (refine (C1.out _ HBa.out).mono ?_; rintro e w1 ⟨rfl, hb1⟩; have HB1 := Lib.hid (below_next HBa.out HBa.out.size hb1); have HK1 := Lib.hid (HKa.out.next hb1); have HKy := Lib.hid (HKz.out.next hb1); have x0 : w1.cell? ⟨W0.heap.size, 0, none⟩ = some (.int .i64 0) := HKy.out.three.1; have x1 : w1.cell? ⟨W0.heap.size, 1, none⟩ = some (.int .u64 0) := HKy.out.three.2.1; have x2 : w1.cell? ⟨W0.heap.size, 2, none⟩ = some (.bool false) := HKy.out.three.2.2; have z0 := HKy.out.frozen 0; have z1 := HKy.out.frozen 1; have z2 := HKy.out.frozen 2; clear hb1)))
    · go_wp2_with fail
      go_meet
      have hz := HB1.out.size
      have hz2 := HZ0.out
      exact ⟨w1.heap.size, rfl, rfl, rfl, by first | omega | (have := HK1.out.lt; omega), Lib.hid (Blk.new w1 _ _), Lib.hid (HK1.out.alloc _), Lib.hid (HB1.out.alloc hz _)⟩
    · go_wp2_with fail
      go_meet
      have hz2 := HZ0.out
      exact ⟨W0.heap.size, rfl, rfl, rfl, by omega, Lib.hid (by simpa using ((HKy.out.set_ 0 (.int .i64 m)).set_ 1 (.int .u64 n)).set_ 2 (.bool o)), Lib.hid (((HK1.out.far (p := ⟨W0.heap.size, 0, none⟩) (by simp; omega) _).far (p := ⟨W0.heap.size, 1, none⟩) (by simp; omega) _).far (p := ⟨W0.heap.size, 2, none⟩) (by simp; omega) _), Lib.hid (below_set3 HB1.out (by omega) _ _ _)⟩
  case rest =>
    obtain ⟨k, rfl, rfl, rfl, hk, HKk, HKr, HBc⟩ := hcut
    have hR2 := HRd.out.below HBc.out
    obtain ⟨r0, r1, r2⟩ := hR2.cells
    have rz := hR2.frozen 1
    obtain ⟨k0, k1, k2⟩ := HKk.out.three
    obtain ⟨d0, d1, d2⟩ := HKr.out.three
    have z0 := HKr.out.frozen 0
    have z1 := HKr.out.frozen 1
    have z2 := HKr.out.frozen 2
    have hgl : g < w.heap.size := HRd.out.lt
    have n1 : ¬ g = w.heap.size := by omega
    have n2 : ¬ g = k := by omega
    have n3 : ¬ w.heap.size = g := by omega
    have n4 : ¬ k = g := by omega
    have HR2 := Lib.hid hR2
    clear hR2
    go_wp2_with fail
    have HGn : Hid (w.grownBy ((((wc.setCell ⟨g, 1, none⟩ (.int .i64 j)).setCell ⟨w.heap.size, 0, none⟩ (.int .i64 m)).setCell ⟨w.heap.size, 1, none⟩ (.int .u64 n)).setCell ⟨w.heap.size, 2, none⟩ (.bool o)) (some g)) := Lib.hid (by
      have h1 : w.grownBy (wc.setCell ⟨g, 1, none⟩ (.int .i64 j)) (some g) := only_set (only_below HBc.out) rfl _
      exact only_own h1 (only_set3 (World.grownBy.refl _ _) _ _ _) (Nat.le_refl _))
    have HRn : Hid (Rdr ((((wc.setCell ⟨g, 1, none⟩ (.int .i64 j)).setCell ⟨w.heap.size, 0, none⟩ (.int .i64 m)).setCell ⟨w.heap.size, 1, none⟩ (.int .u64 n)).setCell ⟨w.heap.size, 2, none⟩ (.bool o)) g A c xs j left) := Lib.hid (by
      have h0 : Blk (wc.setCell ⟨g, 1, none⟩ (.int .i64 j)) g 88 #[.slice A xs.length c, .int .i64 j, .int .i64 left] := by
        have h := Blk.set_ (show Blk wc g 88 #[.slice A xs.length c, .int .i64 p, .int .i64 left] from HR2.out) 1 (.int .i64 j)
        simpa using h
      have h1 := Wd.Blk.far h0 (p := ⟨w.heap.size, 0, none⟩) n1 (.int .i64 m)
      have h2 := Wd.Blk.far h1 (p := ⟨w.heap.size, 1, none⟩) n1 (.int .u64 n)
      exact Wd.Blk.far h2 (p := ⟨w.heap.size, 2, none⟩) n1 (.bool o))
    exact bodyPost_ret (v := .agg #[.int .i64 m, .int .u64 n, .bool o]) (by simp [results, Tryd.results53, go_sem, d0, d1, d2, z0, z1, z2, r0, r1, r2, rz, n1, n3]) rfl ⟨rfl, HGn, HRn⟩
set_option maxHeartbeats 1000000 in
theorem head_err (g : Nat) (A : Option Addr) (c : Nat) (xs : List Int) (p left m n j er : Int) (o : Bool) (w : World) (hR : Rdr w g A c xs p left) (hs : Lst w g A (u8s xs)) (hx : St.bts xs) (hc : xs.length ≤ c) (hm : c ≤ maxLen) (hr : HeadP.read xs p = (m, n, o, j, er)) (he : er ≠ 0) :
    Calls Tryd.prog 53 #[.pointer (some ⟨g, 0, none⟩)] w fun e w' => e = fault er ∧ Hid (w.grownBy w' (some g)) := by
  obtain ⟨c0, c1, c2⟩ := hR.cells
  have C1 := Lib.hid (fun (W : World) (hW : Below w.heap.size w W) => read_tuple A g c xs p m n j er o W (hs.below (hW.mono (Nat.le_of_lt hR.lt))) (by have := hW.size; have := hR.lt; omega) hx hc hm hr)
  have KC := Lib.hid (fun (W : World) (hW : Below w.heap.size w W) => And.intro ((hR.below hW).cells.1) ((hR.below hW).cells.2.1))
  have HB0 := Lib.hid ((Below.refl w.heap.size w).alloc (Nat.le_refl _) (.cells #[.int .i64 0, .int .u64 0, .bool false] 90))
  have HR := Lib.hid hr
  have heb : (er != 0) = true := by simpa using he
  have HRd := Lib.hid hR
  clear hr hR
  go_enter Tryd.func53, Tryd.ntmps53
  go_upto_region 1 with (fail)
  go_cut [3, 4, 5] from 6 to 18 (fun q a b wx => ∃ k : Nat, q = .pointer (some ⟨k, 0, none⟩) ∧ a = .int .i64 j ∧ b = .int .i64 er ∧ w.heap.size < k ∧ Hid (Blk wx k 90 #[.int .i64 m, .int .u64 n, .bool o]) ∧ Hid (Blk wx w.heap.size 90 #[.int .i64 0, .int .u64 0, .bool false]) ∧ Hid (Below w.heap.size w wx))
  case first =>
    have HK0 := Lib.hid (Blk.new w 90 #[.int .i64 0, .int .u64 0, .bool false])
    have hz0 : (w.alloc (.cells #[.int .i64 0, .int .u64 0, .bool false] 90)).heap.size = w.heap.size + 1 := World.size_alloc _ _
    generalize w.alloc (.cells #[.int .i64 0, .int .u64 0, .bool false] 90) = W0 at *
    have HB0d := Lib.hid HB0.out.drew
    have HBa := Lib.hid ((HB0.out.alloc HB0.out.size (.cells #[.int .i64 0, .int .u64 0, .bool false] 90)).drew)
    have HKa := Lib.hid ((HK0.out.alloc (.cells #[.int .i64 0, .int .u64 0, .bool false] 90)).drew)
    have HKz := Lib.hid ((Blk.new W0 90 #[.int .i64 0, .int .u64 0, .bool false]).drew)
    have HZ0 := Lib.hid hz0
    clear hz0 c0 c1 c2
    go_region_held3 (fun w' => w'.cell? ⟨g, 0, none⟩ = some (.slice A xs.length c) ∧ w'.cell? ⟨g, 1, none⟩ = some (.int .i64 p))
      (first | exact KC.out _ HB0d.out | exact KC.out _ HBa.out | exact KC.out _ HB1.out | exact KC.out _ (HB1.out.alloc HB1.out.size _) | exact KC.out _ (below_set3 HB1.out (by have := HZ0.out; omega) _ _ _))
      (first | (go_at_call 81; first | (refine (C1.out _ HB0d.out).mono ?_; rintro e w1 ⟨rfl, hb1⟩; have HB1 := Lib.hid (below_next HB0d.out HB0d.out.size hb1); have HK1 := Lib.hid (HK0.out.drew.next hb1); clear hb1) | (refine (C1.out _ HBa.out).mono ?_; rintro e w1 ⟨rfl, hb1⟩; have HB1 := Lib.hid (below_next HBa.out HBa.out.size hb1); have HK1 := Lib.hid (HKa.out.next hb1); have HKy := Lib.hid (HKz.out.next hb1); have x0 : w1.cell? ⟨W0.heap.size, 0, none⟩ = some (.int .i64 0) := HKy.out.three.1; have x1 : w1.cell? ⟨W0.heap.size, 1, none⟩ = some (.int .u64 0) := HKy.out.three.2.1; have x2 : w1.cell? ⟨W0.heap.size, 2, none⟩ = some (.bool false) := HKy.out.three.2.2; have z0 := HKy.out.frozen 0; have z1 := HKy.out.frozen 1; have z2 := HKy.out.frozen 2; clear hb1)))
    · go_wp2_with fail
      go_meet
      have hz := HB1.out.size
      have hz2 := HZ0.out
      exact ⟨w1.heap.size, rfl, rfl, rfl, by first | omega | (have := HK1.out.lt; omega), Lib.hid (Blk.new w1 _ _), Lib.hid (HK1.out.alloc _), Lib.hid (HB1.out.alloc hz _)⟩
    · go_wp2_with fail
      go_meet
      have hz2 := HZ0.out
      exact ⟨W0.heap.size, rfl, rfl, rfl, by omega, Lib.hid (by simpa using ((HKy.out.set_ 0 (.int .i64 m)).set_ 1 (.int .u64 n)).set_ 2 (.bool o)), Lib.hid (((HK1.out.far (p := ⟨W0.heap.size, 0, none⟩) (by simp; omega) _).far (p := ⟨W0.heap.size, 1, none⟩) (by simp; omega) _).far (p := ⟨W0.heap.size, 2, none⟩) (by simp; omega) _), Lib.hid (below_set3 HB1.out (by omega) _ _ _)⟩
  case rest =>
    obtain ⟨k, rfl, rfl, rfl, hk, HKk, HKr, HBc⟩ := hcut
    go_wp2_with fail
    exact ⟨rfl, rfl, Lib.hid (only_below HBc.out)⟩
end Go.Proofs.YtoieadbifhealaaDoor.CbHead
