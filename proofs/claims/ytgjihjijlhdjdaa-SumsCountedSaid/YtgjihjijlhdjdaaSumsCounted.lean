/- The walk of the statement SumsCounted. -/
import Derived.Test.YtgjihjijlhdjdaaSumsAlive
import Derived.Test.YtgjihjijlhdjdaaFrameRows
import Derived.Deep.RegionHeld3
namespace Go.Proofs.Ytgjihjijlhdjdaa.SumsCounted
open Go.RowKit Wd SumW Ctr SumsAlive Fr
attribute [local go_sem ↓] Go.wp_at_zero Go.wp_at_succ

theorem _root_.Go.Proofs.Ytgjihjijlhdjdaa.Ctr.Ready.drew {w : World} {g : Nat} {asked : Int} (h : Ready w g asked) : Ready w.drew g asked := by
  obtain ⟨cs, d, k, hb, hc, hd⟩ := h
  exact ⟨cs, d, k, hb.drew, hc, hd⟩

set_option maxRecDepth 100000 in
set_option maxHeartbeats 4000000 in
theorem walk (A : Option Addr) (c : Nat) (vs : List Value) (w : World) (_l : vs.length ≤ c) (m : c ≤ maxLen) (s : Lst w w.heap.size A vs) (ht : ∀ u ∈ vs, Txt w w.heap.size u) :
    Calls Try.prog 6 #[.slice A vs.length c] w fun e w' => e = .returned (.bool true) ∧ Below w.heap.size w w' := by
  have hml : vs.length ≤ 9223372036854775807 := by unfold maxLen at m; omega
  have HS := Lib.hid s
  have HT := Lib.hid ht
  have hb0 : Below w.heap.size w ((w.alloc (.cells Try.zeroCells42 42)).alloc (.cells Try.zeroCells42 42)) := ((Below.refl _ _).alloc (Nat.le_refl _) _).alloc (by simp) _
  have hr1 : Ready ((w.alloc (.cells Try.zeroCells42 42)).alloc (.cells Try.zeroCells42 42)) w.heap.size 0 := (ready_new w).alloc _
  have hr2 : Ready ((w.alloc (.cells Try.zeroCells42 42)).alloc (.cells Try.zeroCells42 42)) (w.heap.size + 1) 0 := by
    have := ready_new (w.alloc (.cells Try.zeroCells42 42))
    rwa [World.size_alloc] at this
  have HB0 := Lib.hid hb0
  have HR1 := Lib.hid hr1
  have HR2 := Lib.hid hr2
  clear s ht hb0 hr1 hr2
  go_enter Try.func6, Try.ntmps6
  go_wp2_with fail
  go_loopw [5] (fun i wr => ∃ k : Nat, k ≤ vs.length ∧ k ≤ 50 ∧ i = .int .i64 k ∧ Hid (Ready wr w.heap.size (k : Int)) ∧ Hid (Ready wr (w.heap.size + 1) 0) ∧ Hid (Below w.heap.size w wr)) (fun i _ => 50 - (intOf i).toNat)
  case atStart => exact ⟨0, by omega, by omega, rfl, HR1, HR2, HB0⟩
  case round =>
    rename_i wr
    obtain ⟨k, hk, hk5, rfl, h1, h2, hB⟩ := hrel
    clear HB0 HR1 HR2
    by_cases hlt : k < vs.length ∧ k < 50
    · obtain ⟨i1, i2⟩ := hlt
      rcases HS.out with h0 | ⟨b, o, rfl, hb, hcell⟩
      · simp [h0] at i1
      obtain ⟨Ai, ci, xi, hv, li, mi, si, bi⟩ := HT.out _ (List.getElem_mem i1)
      have hc0 := hcell k i1
      rw [List.getElem?_eq_getElem i1, hv] at hc0
      have KH := Lib.hid (fun W (hW : Below w.heap.size w W) => (hW.cell (p := ⟨b, o + k, none⟩) hb).trans hc0)
      have kc := KH.out wr hB.out
      clear hcell hc0 hv
      by_cases h5 : 500 < xi.length
      · go_wp2_with fail
        refine (alive_any _).mono ?_
        rintro e w3 ⟨rfl, hb3⟩
        have HB3 := Lib.hid (below_next hB.out hB.out.size hb3)
        clear hb3
        go_wp2_with fail
        go_ret
        exact ⟨rfl, HB3.out⟩
      · have mi' : xi.length ≤ maxLen := by omega
        have CL := Lib.hid (fun (W : World) (hb : Below w.heap.size w W) (hr : Ready W w.heap.size (k : Int)) =>
          (Ctr.long_any w.heap.size k Ai w.heap.size ci xi W hr (by omega) (by omega) (fun V hV => si.below (hb.grown hV hb.size (fun k hk => by injection hk with hk; omega))) bi mi'))
        have SL := Lib.hid (fun (W : World) (hb : Below w.heap.size w W) => SumW.long_any Ai w.heap.size ci xi W (si.below hb) bi mi')
        have HBd := Lib.hid hB.out.drew
        have HRd := Lib.hid h1.out.drew
        have HQd := Lib.hid h2.out.drew
        have j0 : (0 : Int) ≤ (k : Int) := by omega
        have j1 : (k : Int) < (vs.length : Int) := by omega
        have hwr : IntKind.i64.wrap ((k : Int) + 1) = (k : Int) + 1 := by rw [IntKind.wrap_i64]; omega
        generalize SumP.long (nb xi) = l at *
        clear si bi mi mi' li HT HS
        go_wp2_with fail
        go_region_held3 (fun w' => w'.cell? ⟨b, o + k, none⟩ = some (.slice Ai xi.length ci))
          (first | exact KH.out _ HB4.out | exact KH.out _ HBd.out)
          (first | (go_at_call 12; refine (CL.out _ HBd.out HRd.out).mono ?_; rintro e w4 ⟨rfl, hr4, hg4⟩; have HR4 := Lib.hid hr4; have HB4 := Lib.hid (HBd.out.grown hg4 HBd.out.size (fun k hk => by injection hk with hk; omega)); have HQ4 := Lib.hid (HQd.out.far hg4 (by omega)); clear hr4 hg4) | (go_at_call 15; refine (SL.out _ HB4.out).mono ?_; rintro e w5 ⟨rfl, rfl⟩) | (go_at_call 17; first | (refine (asked_any w.heap.size (k + 1) _ HR4.out).mono ?_; rintro e w5 ⟨rfl, rfl⟩) | (refine (asked_any (w.heap.size + 1) 0 _ HQ4.out).mono ?_; rintro e w5 ⟨rfl, rfl⟩)))
        go_wp2_with fail
        exact ⟨⟨k + 1, by omega, by omega, by go_num, HR4, HQ4, HB4⟩, by simp [intOf]; omega⟩
    · have hor : ¬ (k < vs.length ∧ k < 50) := hlt
      by_cases hv : k < vs.length
      · have hk50 : ¬ k < 50 := fun h => hor ⟨hv, h⟩
        go_wp2_with fail
        refine (alive_any _).mono ?_
        rintro e w3 ⟨rfl, hb3⟩
        have HB3 := Lib.hid (below_next hB.out hB.out.size hb3)
        clear hb3
        go_wp2_with fail
        go_ret
        exact ⟨rfl, HB3.out⟩
      · go_wp2_with fail
        refine (alive_any _).mono ?_
        rintro e w3 ⟨rfl, hb3⟩
        have HB3 := Lib.hid (below_next hB.out hB.out.size hb3)
        clear hb3
        go_wp2_with fail
        go_ret
        exact ⟨rfl, HB3.out⟩
end Go.Proofs.Ytgjihjijlhdjdaa.SumsCounted
