/- The contract of eid.Less. -/
import Derived.Test.YtbgcbcnidjlhnaaDoorEid
import Derived.Deep.RegionHeld3
import Derived.BigQuiet
namespace Go.Proofs.YtbgcbcnidjlhnaaDoor.Eid
open Go.RowKit Wd

/-- The five comparisons, one behind the other. -/
def ord (x y : Nm) : Int := or1 [Lib.compareInt (kd x) (kd y), cI x.node y.node, cI x.service y.service, Lib.compareBytes x.host.data.toList y.host.data.toList, Lib.compareBytes x.demux.data.toList y.demux.data.toList]

theorem cells5 {w : World} {g : Nat} {t : TypeId} {a b c d e : Value} (h : Blk w g t #[a, b, c, d, e]) : w.cell? ⟨g, 0, none⟩ = some a ∧ w.cell? ⟨g, 1, none⟩ = some b ∧ w.cell? ⟨g, 2, none⟩ = some c ∧ w.cell? ⟨g, 3, none⟩ = some d ∧ w.cell? ⟨g, 4, none⟩ = some e :=
  ⟨by simpa using h.cell 0, by simpa using h.cell 1, by simpa using h.cell 2, by simpa using h.cell 3, by simpa using h.cell 4⟩

set_option maxRecDepth 100000 in
set_option maxHeartbeats 4000000 in
theorem less_any (x y : Nm) (w : World) : Calls Tryd.prog 56 #[x.val, y.val] w fun e w' => e = .returned (.bool (decide (ord x y < 0))) ∧ Below w.heap.size w w' := by
  obtain ⟨i1, n1, s1, h1, d1⟩ := x
  obtain ⟨i2, n2, s2, h2, d2⟩ := y
  show Calls Tryd.prog 56 #[.agg #[.bool i1, .int .u64 n1, .int .u64 s1, .string h1, .string d1], .agg #[.bool i2, .int .u64 n2, .int .u64 s2, .string h2, .string d2]] w _
  have hb := ((Below.refl w.heap.size w).alloc (Nat.le_refl _) (.cells #[.bool i1, .int .u64 n1, .int .u64 s1, .string h1, .string d1] 24)).alloc (by simp) (.cells #[.bool i2, .int .u64 n2, .int .u64 s2, .string h2, .string d2] 24)
  have HB := Lib.hid hb
  have HK1 := Lib.hid ((Blk.new w 24 #[.bool i1, .int .u64 n1, .int .u64 s1, .string h1, .string d1]).alloc (.cells #[.bool i2, .int .u64 n2, .int .u64 s2, .string h2, .string d2] 24))
  have HK2 := Lib.hid (Blk.new (w.alloc (.cells #[.bool i1, .int .u64 n1, .int .u64 s1, .string h1, .string d1] 24)) 24 #[.bool i2, .int .u64 n2, .int .u64 s2, .string h2, .string d2])
  simp only [World.size_alloc] at HK2
  have HOR := Lib.hid (show ord ⟨i1, n1, s1, h1, d1⟩ ⟨i2, n2, s2, h2, d2⟩ = or1 [Lib.compareInt (kd ⟨i1, n1, s1, h1, d1⟩) (kd ⟨i2, n2, s2, h2, d2⟩), cI n1 n2, cI s1 s2, Lib.compareBytes h1.data.toList h2.data.toList, Lib.compareBytes d1.data.toList d2.data.toList] from rfl)
  have CK1 := Lib.hid (fun (W : World) => show Calls Tryd.prog 64 #[.agg #[.bool i1, .int .u64 n1, .int .u64 s1, .string h1, .string d1]] W (fun e w' => e = .returned (.int .i64 (kd ⟨i1, n1, s1, h1, d1⟩)) ∧ Below W.heap.size W w') from kind_any ⟨i1, n1, s1, h1, d1⟩ W)
  have CK2 := Lib.hid (fun (W : World) => show Calls Tryd.prog 64 #[.agg #[.bool i2, .int .u64 n2, .int .u64 s2, .string h2, .string d2]] W (fun e w' => e = .returned (.int .i64 (kd ⟨i2, n2, s2, h2, d2⟩)) ∧ Below W.heap.size W w') from kind_any ⟨i2, n2, s2, h2, d2⟩ W)
  clear hb
  generalize kd ⟨i1, n1, s1, h1, d1⟩ = k1 at *
  generalize kd ⟨i2, n2, s2, h2, d2⟩ = k2 at *
  generalize hord : ord ⟨i1, n1, s1, h1, d1⟩ ⟨i2, n2, s2, h2, d2⟩ = od at *
  clear hord
  go_enter Tryd.func56, Tryd.ntmps56
  go_wp2_with fail
  have hz0 : ((w.alloc (.cells #[.bool i1, .int .u64 n1, .int .u64 s1, .string h1, .string d1] 24)).alloc (.cells #[.bool i2, .int .u64 n2, .int .u64 s2, .string h2, .string d2] 24)).heap.size = w.heap.size + 1 + 1 := by simp
  generalize (w.alloc (.cells #[.bool i1, .int .u64 n1, .int .u64 s1, .string h1, .string d1] 24)).alloc (.cells #[.bool i2, .int .u64 n2, .int .u64 s2, .string h2, .string d2] 24) = W at *
  have hz1 := Nat.le_of_eq hz0.symm
  clear hz0
  have KC := Lib.hid (fun (w' : World) (hW : Below W.heap.size W w') => And.intro (cells5 (HK1.out.below hW HK1.out.lt)) (cells5 (HK2.out.below hW HK2.out.lt)))
  have HBd := Lib.hid ((Below.refl W.heap.size W).drew)
  have CO := Lib.hid (fun (w' : World) (a b c d e : Int) => show Calls Tryd.prog 54 #[.slice (some ⟨w'.heap.size, 0, none⟩) 5 5] (w'.alloc (.cells #[.int .i64 a, .int .i64 b, .int .i64 c, .int .i64 d, .int .i64 e] 3)) (fun e1 w1 => e1 = .returned (.int .i64 (or1 [a, b, c, d, e])) ∧ w1 = w'.alloc (.cells #[.int .i64 a, .int .i64 b, .int .i64 c, .int .i64 d, .int .i64 e] 3)) from
    or_any [a, b, c, d, e] w'.heap.size 5 _ (fun j hj => by
      have h := (Blk.new w' 3 #[.int .i64 a, .int .i64 b, .int .i64 c, .int .i64 d, .int .i64 e]).cell j
      rw [h]
      match j, hj with
      | 0, _ => rfl
      | 1, _ => rfl
      | 2, _ => rfl
      | 3, _ => rfl
      | 4, _ => rfl) (by simp))
  go_region_held3 (fun w' => (w'.cell? ⟨w.heap.size, 0, none⟩ = some (.bool i1) ∧ w'.cell? ⟨w.heap.size, 1, none⟩ = some (.int .u64 n1) ∧ w'.cell? ⟨w.heap.size, 2, none⟩ = some (.int .u64 s1) ∧ w'.cell? ⟨w.heap.size, 3, none⟩ = some (.string h1) ∧ w'.cell? ⟨w.heap.size, 4, none⟩ = some (.string d1)) ∧ (w'.cell? ⟨w.heap.size + 1, 0, none⟩ = some (.bool i2) ∧ w'.cell? ⟨w.heap.size + 1, 1, none⟩ = some (.int .u64 n2) ∧ w'.cell? ⟨w.heap.size + 1, 2, none⟩ = some (.int .u64 s2) ∧ w'.cell? ⟨w.heap.size + 1, 3, none⟩ = some (.string h2) ∧ w'.cell? ⟨w.heap.size + 1, 4, none⟩ = some (.string d2)))
    (first | with_reducible exact KC.out _ HBd.out | with_reducible exact KC.out _ HB2.out | with_reducible exact KC.out _ (HB2.out.alloc HB2.out.size _) | with_reducible exact KC.out _ HB1.out | fail)
    (first | (go_at_call 64; (with_reducible refine (CK2.out wk1).mono ?_); rintro e wk2 ⟨rfl, hb2⟩; have HB2 := Lib.hid (below_next HB1.out HB1.out.size hb2); clear hb2) | (go_at_call 64; (with_reducible refine (CK1.out _).mono ?_); rintro e wk1 ⟨rfl, hb1⟩; have HB1 := Lib.hid (below_next HBd.out HBd.out.size hb1); clear hb1) | (go_at_call 85; (refine (Tryd.cmp_Compare_int _ _ _).mono ?_); rintro e wq ⟨rfl, rfl⟩) | (go_at_call 55; (refine (compare_any _ _ _).mono ?_); rintro e wq ⟨rfl, rfl⟩) | (go_at_call 86; (refine (Tryd.strings_Compare _ _ _).mono ?_); rintro e wq ⟨rfl, rfl⟩) | (go_at_call 54; (with_reducible refine (CO.out _ _ _ _ _ _).mono ?_); rintro e wq ⟨rfl, rfl⟩) | fail)
  go_wp2_with fail
  go_ret
  exact ⟨ret_bool (by rw [HOR.out]), below_next HB.out (by omega) (HB2.out.alloc HB2.out.size _)⟩

/-! The order, plain. -/
theorem or1_neg (l : List Int) : or1 l < 0 ∨ or1 l = 0 ∨ 0 < or1 l := by omega
theorem cI_self (x : Int) : cI x x = 0 := by unfold cI; rw [if_neg (by omega), if_neg (by omega)]
theorem cI_swap (x y : Int) : cI y x = - cI x y := by unfold cI; split <;> split <;> (try split) <;> omega
theorem cmp_self (l : List UInt8) : Lib.compareBytes l l = 0 := by
  induction l with
  | nil => rfl
  | cons a l ih => simp [Lib.compareBytes, ih]
end Go.Proofs.YtbgcbcnidjlhnaaDoor.Eid
