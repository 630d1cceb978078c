/- A counter: its block, its table, what its calls do. -/
import Derived.Test.YtgjihjijlhdjdaaOnce
import Derived.Test.YtgjihjijlhdjdaaSumsW
import Derived.Deep.RegionHeld3
import Derived.Deep.DrawnRows
import Derived.StillTailTactics
namespace Go.Proofs.Ytgjihjijlhdjdaa.Ctr
open Go.RowKit Wd
attribute [local go_sem ↓] Go.wp_at_zero Go.wp_at_succ

/-- The cells of a counter: the lock's state, whether it is done, how often it was asked, so many rows of the table. -/
def Cs (cs : Array Value) (st done asked : Int) (k : Nat) : Prop :=
  cs.size = 260 ∧ cs[0]? = some (.int .u32 done) ∧ cs[1]? = some (.int .i32 st) ∧ cs[259]? = some (.int .i64 asked) ∧ (∀ i, i < 256 → ∃ v : Int, cs[3 + i]? = some (.int .u32 v)) ∧
  ∀ i, i < k → cs[3 + i]? = some (.int .u32 (SumP.steps SumP.PL 8 i : Nat))

theorem Cs.row {cs : Array Value} {st done asked : Int} {k : Nat} (h : Cs cs st done asked k) (hk : k < 256) : Cs (cs.setIfInBounds (3 + k) (.int .u32 (SumP.steps SumP.PL 8 k : Nat))) st done asked (k + 1) := by
  obtain ⟨h0, h1, h2, h3, h4, h5⟩ := h
  refine ⟨by simpa using h0, ?_, ?_, ?_, fun i hi => ?_, fun i hi => ?_⟩
  · rw [Array.getElem?_setIfInBounds_ne (by omega)]; exact h1
  · rw [Array.getElem?_setIfInBounds_ne (by omega)]; exact h2
  · rw [Array.getElem?_setIfInBounds_ne (by omega)]; exact h3
  · by_cases he : i = k
    · subst he; exact ⟨_, by rw [Array.getElem?_setIfInBounds_self_of_lt (by omega)]⟩
    · obtain ⟨v, hv⟩ := h4 i hi
      exact ⟨v, by rw [Array.getElem?_setIfInBounds_ne (by omega)]; exact hv⟩
  · by_cases he : i = k
    · subst he; rw [Array.getElem?_setIfInBounds_self_of_lt (by omega)]
    · rw [Array.getElem?_setIfInBounds_ne (by omega)]; exact h5 i (by omega)

set_option maxRecDepth 100000 in
set_option maxHeartbeats 400000 in
theorem fill_any (g : Nat) (cs : Array Value) (st done asked : Int) (w : World) (hb : Blk w g 42 cs) (hc : Cs cs st done asked 0) :
    Calls Try.prog 29 #[.pointer (some ⟨g, 0, none⟩)] w fun e w' => e = .returned (.tuple #[]) ∧ ∃ cs', Blk w' g 42 cs' ∧ Cs cs' st done asked 256 ∧ w.grownBy w' (some g) := by
  go_enter Try.func29, Try.ntmps29
  go_wp2_with fail
  go_loopw [3] (fun i wr => ∃ (k : Nat) (c1 : Array Value), k ≤ 256 ∧ i = .int .i64 k ∧ Hid (Blk wr g 42 c1) ∧ Hid (Cs c1 st done asked k) ∧ Hid (w.grownBy wr (some g))) (fun i _ => 256 - (intOf i).toNat)
  case atStart => exact ⟨0, cs, by omega, rfl, hb, hc, World.grownBy.refl _ _⟩
  case round =>
    obtain ⟨k, c1, hk, rfl, h0, h1, h2⟩ := hrel
    clear hb hc
    by_cases hlt : k < 256
    · obtain ⟨v, hv⟩ := h1.out.2.2.2.2.1 k hlt
      have hcell : wr.cell? ⟨g, 3 + k, none⟩ = some (.int .u32 v) := by rw [h0.out.cell, hv]
      have hfr := h0.out.frozen (3 + k)
      clear hv
      go_wp2_with fail
      have hls := fun W => SumW.longStep_any k W (by omega)
      have HLS := Lib.hid hls
      clear hls
      have i0 : (0 : Int) ≤ (k : Int) := by omega
      have i1 : (k : Int) < 256 := by omega
      have hfz : wr.drew.frozen? ⟨g, 3 + k, none⟩ = false := by simpa using hfr
      have hcz : wr.drew.cell? ⟨g, 3 + k, none⟩ = some (.int .u32 v) := by simpa using hcell
      have hwr : IntKind.u32.wrap (k : Int) = (k : Int) := by rw [IntKind.wrap_u32']; omega
      refine wp_region_still_tail 8 (by kernel_rfl) (by kernel_rfl) ?_
      simp only [List.take_succ_cons, List.take_zero, List.drop_succ_cons, List.drop_zero]
      still_step
      still_step
      still_step
      still_step
      still_call ((HLS.out _).mono fun e w'' h => ⟨h.1, h.2.symm⟩)
      still_step
      still_step
      still_step
      refine wpStill_nil ?_
      change wpList _ _ _ _ _ wr.drew
      generalize hwd : wr.drew = wd at *
      have HWD := Lib.hid hwd
      clear hwd
      go_wp2_with fail
      have hw := HWD.out
      subst hw
      exact ⟨⟨k + 1, _, hlt, by go_num, (h0.out.drew).set_ _ _, h1.out.row hlt, only_set (only_drew h2.out) rfl _⟩, by simp [intOf]; omega⟩
    · obtain rfl : k = 256 := by omega
      go_wp2_with fail
      go_end0
      exact ⟨rfl, c1, h0.out, h1.out, h2.out⟩

theorem Cs.put {cs : Array Value} {st done asked : Int} {k : Nat} (h : Cs cs st done asked k) :
    (∀ x, Cs (cs.setIfInBounds 0 (.int .u32 x)) st x asked k) ∧ (∀ x, Cs (cs.setIfInBounds 1 (.int .i32 x)) x done asked k) ∧ (∀ x, Cs (cs.setIfInBounds 259 (.int .i64 x)) st done x (min k 256)) := by
  obtain ⟨h0, h1, h2, h3, h4, h5⟩ := h
  refine ⟨fun x => ⟨by simpa using h0, by rw [Array.getElem?_setIfInBounds_self_of_lt (by omega)], by rw [Array.getElem?_setIfInBounds_ne (by omega)]; exact h2, by rw [Array.getElem?_setIfInBounds_ne (by omega)]; exact h3, fun i hi => ?_, fun i hi => ?_⟩,
    fun x => ⟨by simpa using h0, by rw [Array.getElem?_setIfInBounds_ne (by omega)]; exact h1, by rw [Array.getElem?_setIfInBounds_self_of_lt (by omega)], by rw [Array.getElem?_setIfInBounds_ne (by omega)]; exact h3, fun i hi => ?_, fun i hi => ?_⟩,
    fun x => ⟨by simpa using h0, by rw [Array.getElem?_setIfInBounds_ne (by omega)]; exact h1, by rw [Array.getElem?_setIfInBounds_ne (by omega)]; exact h2, by rw [Array.getElem?_setIfInBounds_self_of_lt (by omega)], fun i hi => ?_, fun i hi => ?_⟩⟩
  · obtain ⟨v, hv⟩ := h4 i hi; exact ⟨v, by rw [Array.getElem?_setIfInBounds_ne (by omega)]; exact hv⟩
  · rw [Array.getElem?_setIfInBounds_ne (by omega)]; exact h5 i hi
  · obtain ⟨v, hv⟩ := h4 i hi; exact ⟨v, by rw [Array.getElem?_setIfInBounds_ne (by omega)]; exact hv⟩
  · rw [Array.getElem?_setIfInBounds_ne (by omega)]; exact h5 i hi
  · obtain ⟨v, hv⟩ := h4 i hi; exact ⟨v, by rw [Array.getElem?_setIfInBounds_ne (by omega)]; exact hv⟩
  · rw [Array.getElem?_setIfInBounds_ne (by omega)]; exact h5 i (by omega)

/-- The function that is handed to Do: fill, bound to its counter. -/
abbrev fillOf (g : Nat) : Value := .func (.func 29) #[.pointer (some ⟨g, 0, none⟩)] #[]

theorem not_run : ∀ (x : Bool) (w : World), (Op.unary .not (.bool x)).run Try.prog w = .ok (.bool (!x)) w := fun _ _ => rfl

theorem load_any (a : Addr) (d : Int) (w : World) (h : w.cell? a = some (.int .u32 d)) :
    Calls Try.prog 42 #[.pointer (some a)] w fun e w' => e = .returned (.bool (d != 0)) ∧ w = w' := by
  have hl := run_call_load (P := Try.prog) Try.func46 (by kernel_rfl) (by kernel_rfl) (by kernel_rfl) .u32 (by kernel_rfl) h
  go_enter Try.func42, Try.ntmps42
  go_wp2_with fail
  go_ret
  exact ⟨rfl, rfl⟩

set_option maxRecDepth 100000 in
set_option maxHeartbeats 1600000 in
/-- '(*sync.Once).doSlow', not yet done, the lock free: the table is made; it is done; the lock is free. -/
theorem slow_any (g : Nat) (cs : Array Value) (asked : Int) (w : World) (hb : Blk w g 42 cs) (hc : Cs cs 0 0 asked 0) :
    Calls Try.prog 43 #[.pointer (some ⟨g, 0, none⟩), fillOf g] w fun e w' => e = .returned (.tuple #[]) ∧ ∃ cs', Blk w' g 42 cs' ∧ Cs cs' 0 1 asked 256 ∧ w.grownBy w' (some g) := by
  have c1 : w.cell? ⟨g, 1, none⟩ = some (.int .i32 0) := by rw [hb.cell]; exact hc.2.2.1
  have f1 := hb.frozen 1
  have hb1 := hb.set_ 1 (.int .i32 1)
  have hc1 := hc.put.2.1 1
  have d0 : (w.setCell ⟨g, 1, none⟩ (.int .i32 1)).cell? ⟨g, 0, none⟩ = some (.int .u32 0) := by rw [hb1.cell]; exact hc1.2.1
  have HLD := Lib.hid (load_any _ _ _ d0)
  have HLK := Lib.hid (Once.lock_free ⟨g, 1, none⟩ w c1 f1)
  have HFI := Lib.hid (fill_any g _ 1 0 asked _ hb1 hc1)
  have HG1 := Lib.hid (only_set (World.grownBy.refl w (some g)) (p := ⟨g, 1, none⟩) rfl (.int .i32 1))
  have hnot := not_run
  clear hb hc c1 f1 hb1 hc1
  go_enter_defers Try.func43, Try.ntmps43
  go_wp2_with fail
  refine HLK.out.mono ?_
  rintro e w1 ⟨rfl, rfl⟩
  go_wp2_with fail
  refine HLD.out.mono ?_
  rintro e w1 ⟨rfl, rfl⟩
  go_wp2_with fail
  refine HFI.out.mono ?_
  rintro e w2 ⟨rfl, cs2, hb2, hc2, hg2⟩
  have HB2 := Lib.hid hb2
  have HC2 := Lib.hid hc2
  have HG2 := Lib.hid (only_trans HG1.out hg2)
  clear hb2 hc2 hg2 d0
  go_wp2_with fail
  refine leaves_cons (f := 49) (args := #[.pointer (some ⟨g, 0, none⟩), .bool true]) (by simp) (by simp [go_sem]) ?_
  refine (Once.store_deferred ⟨g, 0, none⟩ (.int .u32 0) .returning _ (by rw [HB2.out.cell]; exact HC2.out.2.1) (HB2.out.frozen 0)).mono ?_
  rintro e u' w'' ⟨rfl, rfl, rfl⟩
  have hb3 := (HB2.out.drew).set_ 0 (.int .u32 1)
  have hc3 := HC2.out.put.1 1
  refine leaves_cons (f := 48) (args := #[.pointer (some ⟨g, 1, none⟩)]) (by simp [settle]) (by simp [go_sem]) ?_
  refine (Once.unlock_deferred ⟨g, 1, none⟩ _ _ (by rw [hb3.cell]; exact hc3.2.2.1) (hb3.frozen 1)).mono ?_
  rintro e u' w'' ⟨rfl, rfl, rfl⟩
  have hb4 := hb3.set_ 1 (.int .i32 0)
  have hc4 := hc3.put.2.1 0
  have hg4 := only_set (only_set (only_drew HG2.out) (p := ⟨g, 0, none⟩) rfl (.int .u32 1)) (p := ⟨g, 1, none⟩) rfl (.int .i32 0)
  simp [Leaves, settle, results, Try.results43]
  exact ⟨_, hb4, hc4, hg4⟩

set_option maxRecDepth 100000 in
set_option maxHeartbeats 1600000 in
theorem do_first (g : Nat) (cs : Array Value) (asked : Int) (w : World) (hb : Blk w g 42 cs) (hc : Cs cs 0 0 asked 0) :
    Calls Try.prog 28 #[.pointer (some ⟨g, 0, none⟩), fillOf g] w fun e w' => e = .returned (.tuple #[]) ∧ ∃ cs', Blk w' g 42 cs' ∧ Cs cs' 0 1 asked 256 ∧ w.grownBy w' (some g) := by
  have d0 : w.cell? ⟨g, 0, none⟩ = some (.int .u32 0) := by rw [hb.cell]; exact hc.2.1
  have HLD := Lib.hid (load_any _ _ _ d0)
  have HSL := Lib.hid (slow_any g cs asked w hb hc)
  have hnot := not_run
  clear hb hc d0
  go_enter Try.func28, Try.ntmps28
  go_wp2_with fail
  refine HLD.out.mono ?_
  rintro e w1 ⟨rfl, rfl⟩
  go_wp2_with fail
  refine HSL.out.mono ?_
  rintro e w2 ⟨rfl, h⟩
  have HH := Lib.hid h
  clear h
  go_wp2_with fail
  go_end0
  exact ⟨rfl, HH.out⟩

set_option maxRecDepth 100000 in
set_option maxHeartbeats 1600000 in
theorem do_done (g : Nat) (v : Value) (w : World) (d0 : w.cell? ⟨g, 0, none⟩ = some (.int .u32 1)) :
    Calls Try.prog 28 #[.pointer (some ⟨g, 0, none⟩), v] w fun e w' => e = .returned (.tuple #[]) ∧ w = w' := by
  have HLD := Lib.hid (load_any _ _ _ d0)
  have hnot := not_run
  clear d0
  go_enter Try.func28, Try.ntmps28
  go_wp2_with fail
  refine HLD.out.mono ?_
  rintro e w1 ⟨rfl, rfl⟩
  go_wp2_with fail
  go_end0
  exact ⟨rfl, rfl⟩
end Go.Proofs.Ytgjihjijlhdjdaa.Ctr
