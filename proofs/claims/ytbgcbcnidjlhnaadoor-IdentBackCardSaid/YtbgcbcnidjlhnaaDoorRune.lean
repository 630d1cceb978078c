/- The contracts of strings.IndexRune and strings.ContainsRune for a rune that is none of ASCII, in a text of one or two bytes of ASCII. -/
import Derived.Test.YtbgcbcnidjlhnaaDoorEid
import Derived.Laws.RangeString
import Derived.Laws.RangeAny
import Derived.Laws.Runes
import Derived.IntWalk
import Derived.Deep.QuietTactic
import Derived.BigQuiet
import Derived.BigRegion
import Derived.Deep.RegionLaw
namespace Go.Proofs.YtbgcbcnidjlhnaaDoor.Eid
open Go.RowKit Wd

theorem below_iter (w : World) (s : ByteArray) (p : Nat) : Below w.heap.size w (w.iter s p) := (Below.refl w.heap.size w).alloc (Nat.le_refl _) _

theorem validRune_any (r : Int) (w : World) : Calls Tryd.prog 145 #[.int .i32 r] w fun e w' => (e = .returned (.bool true) ∧ Utf8.valid r = true ∨ e = .returned (.bool false)) ∧ w' = w := by
  go_enter Tryd.func145, Tryd.ntmps145
  go_wp2_with fail
  all_goals
    go_ret
    first | exact ⟨.inl ⟨rfl, by simp [Utf8.valid]; omega⟩, rfl⟩ | exact ⟨.inr rfl, rfl⟩

set_option maxRecDepth 100000 in
set_option maxHeartbeats 2000000 in
theorem indexRune1 (r : Int) (w : World) (h0 : 128 ≤ r) (h1 : r ≤ 1114111) : Calls Tryd.prog 132 #[.string ⟨#[45]⟩, .int .i32 r] w fun e w' => e = .returned (.int .i64 (-1)) ∧ Below w.heap.size w w' := by
  have t0 : decide (0 ≤ r) = true := decide_eq_true (by omega)
  have t1 : decide (r < 128) = false := decide_eq_false (by omega)
  go_enter Tryd.func132, Tryd.ntmps132
  by_cases hr : r = 65533
  · subst hr
    go_wp2_with fail
    have hn0 : ∀ ty, (Instr.next (.pointer (some ⟨w.heap.size, 0, none⟩)) true ty).run Tryd.prog (w.iter ⟨#[45]⟩ 0) = _ := fun ty => run_next_any w ⟨#[45]⟩ 0 ty (by decide)
    have hn1 : ∀ ty, (Instr.next (.pointer (some ⟨w.heap.size, 0, none⟩)) true ty).run Tryd.prog (w.iter ⟨#[45]⟩ 1) = _ := fun ty => run_next_end w ⟨#[45]⟩ 1 ty (by decide)
    rw [show Utf8.decode ⟨#[45]⟩ 0 = (45, 1) from by decide] at hn0
    refine wp_loop_rounds 2 ?_
    rw [rounds_succ]
    go_wp2_with fail
    rw [rounds_succ]
    go_wp2_with fail
    go_ret
    exact ⟨rfl, below_iter w _ _⟩
  · have t2 : (r == 65533) = false := by simpa using hr
    go_wp2_with fail
    refine (validRune_any r w).mono ?_
    rintro e w1 ⟨⟨rfl, hb⟩ | rfl, rfl⟩
    rotate_left
    · go_wp2_with fail
      go_ret
      exact ⟨rfl, Below.refl _ _⟩
    · obtain ⟨e1, e2, e3⟩ := encode_facts r hb h0
      have hw : wrap64 (((Utf8.encode r).size : Int) - 1) = ((Utf8.encode r).size : Int) - 1 := by (unfold wrap64; omega)
      have hl : decide (((Utf8.encode r).size : Int) - 1 < 1) = false := decide_eq_false (by omega)
      go_wp2_with fail
      go_step3
      go_wp2_with fail
      refine wp_loop_rounds 1 ?_
      rw [rounds_succ]
      go_wp2_with fail
      rw [Exit.noGoto_ret]
      go_ret
      exact ⟨rfl, Below.refl _ _⟩

set_option maxRecDepth 100000 in
set_option maxHeartbeats 2000000 in
theorem indexRune2 (s : ByteArray) (hs : s.size = 2) (hs0 : (s[0]'(by omega)).toNat < 128) (hs1 : (s[1]'(by omega)).toNat < 128) (r : Int) (w : World) (h0 : 128 ≤ r) (h1 : r ≤ 1114111) : Calls Tryd.prog 132 #[.string s, .int .i32 r] w fun e w' => e = .returned (.int .i64 (-1)) ∧ Below w.heap.size w w' := by
  have t0 : decide (0 ≤ r) = true := decide_eq_true (by omega)
  have t1 : decide (r < 128) = false := decide_eq_false (by omega)
  go_enter Tryd.func132, Tryd.ntmps132
  by_cases hr : r = 65533
  · subst hr
    go_wp2_with fail
    have hn0 : ∀ ty, (Instr.next (.pointer (some ⟨w.heap.size, 0, none⟩)) true ty).run Tryd.prog (w.iter s 0) = _ := fun ty => run_next_any w s 0 ty (by omega)
    have hn1 : ∀ ty, (Instr.next (.pointer (some ⟨w.heap.size, 0, none⟩)) true ty).run Tryd.prog (w.iter s 1) = _ := fun ty => run_next_any w s 1 ty (by omega)
    have hn2 : ∀ ty, (Instr.next (.pointer (some ⟨w.heap.size, 0, none⟩)) true ty).run Tryd.prog (w.iter s 2) = _ := fun ty => run_next_end w s 2 ty (by omega)
    rw [decode_ascii s 0 (by omega) hs0] at hn0
    rw [decode_ascii s 1 (by omega) hs1] at hn1
    have k0 : (((s[0]'(by omega)).toNat : Int) == 65533) = false := by simp only [beq_eq_false_iff_ne, ne_eq]; omega
    have k1 : (((s[1]'(by omega)).toNat : Int) == 65533) = false := by simp only [beq_eq_false_iff_ne, ne_eq]; omega
    refine wp_loop_rounds 3 ?_
    rw [rounds_succ]
    go_wp2_with fail
    rw [rounds_succ]
    go_wp2_with fail
    rw [rounds_succ]
    go_wp2_with fail
    go_ret
    exact ⟨rfl, below_iter w _ _⟩
  · have t2 : (r == 65533) = false := by simpa using hr
    go_wp2_with fail
    refine (validRune_any r w).mono ?_
    rintro e w1 ⟨⟨rfl, hb⟩ | rfl, rfl⟩
    rotate_left
    · go_wp2_with fail
      go_ret
      exact ⟨rfl, Below.refl _ _⟩
    · obtain ⟨e1, e2, e3⟩ := encode_facts r hb h0
      have hl1 : decide ((1 : Int) < (s.size : Int)) = true := decide_eq_true (by omega)
      by_cases hz : (Utf8.encode r).size = 2
      · have hw : wrap64 (((Utf8.encode r).size : Int) - 1) = 1 := by unfold wrap64; omega
        go_wp2_with fail
        go_step3
        go_wp2_with fail
        refine wp_loop_rounds 1 ?_
        rw [rounds_succ]
        go_wp2_with fail
        have hb1 : (1 : Int) < ((Utf8.encode r).size : Int) := by omega
        have e4 : 128 ≤ ((Utf8.encode r)[1]'(by omega)).toNat := by
          have h := e3 (by omega)
          simpa [hz] using h
        have hq : (((s[1]'(by omega)).toNat : Int) != (((Utf8.encode r)[1]'(by omega)).toNat : Int)) = true := by
          simp only [bne_iff_ne, ne_eq]
          omega
        have hs3 : (1 : Int) < (s.size : Int) := by omega
        go_step3
        go_wp2_with fail
        go_quiet (fail)
        go_wp2_with fail
        have hw2 : wrap64 (1 + 1) = 2 := by simp [wrap64]
        have hs2 : (2 : Int) ≤ (s.size : Int) := by omega
        have hw3 : IntKind.i64.wrap 2 = 2 := by rw [IntKind.wrap_i64]; simp [wrap64]
        have CI := Lib.hid (fun (w' : World) (s : ByteArray) (c : Int) => Tryd.strings_IndexByte s c w')
        go_region_law (first | (go_simp; go_at_call 144; (refine (CI.out _ _ _).mono ?_); rintro e wq ⟨rfl, rfl⟩) | fail)
        have hix : ∀ c, Lib.indexByte [] c = -1 := fun c => rfl
        simp only [hix]
        go_wp2_with fail
        rw [Exit.noGoto_ret]
        go_wp2_with fail
        rw [Exit.noGoto_ret]
        go_ret
        first | exact ⟨rfl, below_drewN (Below.refl _ _) _⟩ | exact ⟨rfl, (below_drewN (Below.refl _ _) _).drew⟩
      · have hw : wrap64 (((Utf8.encode r).size : Int) - 1) = ((Utf8.encode r).size : Int) - 1 := by unfold wrap64; omega
        have hl : decide (((Utf8.encode r).size : Int) - 1 < (s.size : Int)) = false := decide_eq_false (by omega)
        go_wp2_with fail
        go_step3
        go_wp2_with fail
        refine wp_loop_rounds 1 ?_
        rw [rounds_succ]
        go_wp2_with fail
        rw [Exit.noGoto_ret]
        go_ret
        exact ⟨rfl, Below.refl _ _⟩
end Go.Proofs.YtbgcbcnidjlhnaaDoor.Eid
