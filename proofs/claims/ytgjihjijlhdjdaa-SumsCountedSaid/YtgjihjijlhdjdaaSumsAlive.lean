/- The fixed calls at the end of each statement of layer 1. -/
import Derived.Test.YtgjihjijlhdjdaaCtrLong
import Derived.Lib.SlBytesConst
import Derived.Lib.SmallJoins
namespace Go.Proofs.Ytgjihjijlhdjdaa.SumsAlive
open Go.RowKit Go.Joins Wd SumW Ctr

theorem zero_cells : Try.zeroCells42 = #[.int .u32 0, .int .i32 0, .int .u32 0] ++ Array.replicate 256 (.int .u32 0) ++ #[.int .i64 0] := by kernel_rfl
theorem zero_cs : Cs Try.zeroCells42 0 0 0 0 := by
  rw [zero_cells]
  refine ⟨by simp, by simp, by simp, ?_, fun i hi => ⟨0, ?_⟩, fun i hi => by omega⟩
  · rw [Array.getElem?_append_right (by simp)]
    simp
  rw [Array.getElem?_append_left (by simp; omega), Array.getElem?_append_right (by simp)]
  simp [hi]
theorem ready_new (w : World) : Ready (w.alloc (.cells Try.zeroCells42 42)) w.heap.size 0 := ⟨_, 0, 0, Blk.new _ _ _, zero_cs, .inl ⟨rfl, rfl⟩⟩

set_option maxRecDepth 100000 in
set_option maxHeartbeats 1600000 in
theorem alive_any (w : World) : Calls Try.prog 11 #[] w fun e w' => e = .returned (.bool true) ∧ Below w.heap.size w w' := by
  have kc := run_convert_bytes_const_at (P := Try.prog) (w.alloc (.cells Try.zeroCells42 42)) 22 5 #[.int .u8 49, .int .u8 50, .int .u8 51, .int .u8 52, .int .u8 53, .int .u8 54, .int .u8 55, .int .u8 56, .int .u8 57] 9 9 (w.heap.size + 1) (by simp) Try.underlying22 Try.underlying5
  go_enter Try.func11, Try.ntmps11
  go_wp2_with fail
  have hl2 := Lst.litm (w.alloc (.cells Try.zeroCells42 42)) #[.int .u8 49, .int .u8 50, .int .u8 51, .int .u8 52, .int .u8 53, .int .u8 54, .int .u8 55, .int .u8 56, .int .u8 57] 5 (9, 10)
  simp only [World.size_alloc] at hl2
  have hr2 := (ready_new w).alloc (.cells #[.int .u8 49, .int .u8 50, .int .u8 51, .int .u8 52, .int .u8 53, .int .u8 54, .int .u8 55, .int .u8 56, .int .u8 57] 5 (9, 10))
  have hb2 := ((Below.refl w.heap.size w).alloc (Nat.le_refl _) (.cells Try.zeroCells42 42)).alloc (by simp) (.cells #[.int .u8 49, .int .u8 50, .int .u8 51, .int .u8 52, .int .u8 53, .int .u8 54, .int .u8 55, .int .u8 56, .int .u8 57] 5 (9, 10))
  have hs2 : w.heap.size + 1 < ((w.alloc (.cells Try.zeroCells42 42)).alloc (.cells #[.int .u8 49, .int .u8 50, .int .u8 51, .int .u8 52, .int .u8 53, .int .u8 54, .int .u8 55, .int .u8 56, .int .u8 57] 5 (9, 10))).heap.size := by simp
  generalize ((w.alloc (.cells Try.zeroCells42 42)).alloc (.cells #[.int .u8 49, .int .u8 50, .int .u8 51, .int .u8 52, .int .u8 53, .int .u8 54, .int .u8 55, .int .u8 56, .int .u8 57] 5 (9, 10))) = w2 at *
  have HL2 : Hid (Lst w2 (w.heap.size + 1 + 1) (some ⟨w.heap.size + 1, 0, none⟩) (u8s [49, 50, 51, 52, 53, 54, 55, 56, 57])) := hl2
  have HR2 := Lib.hid hr2
  have HB2 := Lib.hid hb2
  have HBT := Lib.hid (show St.bts [49, 50, 51, 52, 53, 54, 55, 56, 57] from by unfold St.bts; decide)
  clear hl2 hr2 hb2 kc
  refine (SumW.short_any _ _ 9 [49, 50, 51, 52, 53, 54, 55, 56, 57] _ HL2.out HBT.out (by decide)).mono ?_
  rintro e w3 ⟨rfl, rfl⟩
  rw [show SumP.short (nb [49, 50, 51, 52, 53, 54, 55, 56, 57]) = 36974 from by decide +kernel]
  go_wp2_with fail
  refine (SumW.long_any _ _ 9 [49, 50, 51, 52, 53, 54, 55, 56, 57] _ HL2.out HBT.out (by decide)).mono ?_
  rintro e w3 ⟨rfl, rfl⟩
  have hlv : SumP.long (nb [49, 50, 51, 52, 53, 54, 55, 56, 57]) = 3808858755 := by decide +kernel
  rw [hlv]
  go_wp2_with fail
  refine (Ctr.long_any w.heap.size 0 _ (w.heap.size + 1 + 1) 9 [49, 50, 51, 52, 53, 54, 55, 56, 57] _ HR2.out (by omega) (by omega) (fun W hW => HL2.out.only (by omega) (fun b o e => by injection e with e; injection e with e; omega) hW) HBT.out (by decide)).mono ?_
  rintro e w3 ⟨rfl, hr3, hg3⟩
  rw [hlv]
  have HR3 := Lib.hid hr3
  have HG3 := Lib.hid hg3
  clear hr3 hg3 hlv
  go_wp2_with fail
  refine (asked_any w.heap.size (0 + 1) _ HR3.out).mono ?_
  rintro e w4 ⟨rfl, rfl⟩
  go_wp2_with fail
  go_ret
  exact ⟨rfl, HB2.out.grown HG3.out HB2.out.size (fun k hk => by injection hk with hk; omega)⟩
end Go.Proofs.Ytgjihjijlhdjdaa.SumsAlive
