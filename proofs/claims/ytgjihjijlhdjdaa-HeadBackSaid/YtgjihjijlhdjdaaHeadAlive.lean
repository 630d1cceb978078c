/- The fixed calls at the end of each statement of layer 2. -/
import Derived.Test.YtgjihjijlhdjdaaHeadW
import Derived.Test.YtgjihjijlhdjdaaHeadS
namespace Go.Proofs.Ytgjihjijlhdjdaa.HeadAlive
open Go.RowKit Wd

/-- 'string(x)' of what Write handed back, in a later world. -/
theorem str_of {w W : World} {base n : Nat} {A : Option Addr} {c : Nat} {xs : List Int} (h : w.ownsRow base 5 1 (.slice A n c) n (u8s xs)) (hn : xs.length = n) (hb : Below w.heap.size w W) :
    (convert 22 9 (.slice A n c)).run Try.prog W = .ok (.string (strOfNums xs)) W := by
  subst hn
  exact run_string ((Lst.of_own h).below hb) _ _ _ Try.underlying22 Try.underlying5 Try.underlying9 c

set_option maxRecDepth 100000 in
set_option maxHeartbeats 400000 in
theorem alive_any (w : World) : Calls Try.prog 20 #[] w fun e w' => e = .returned (.bool true) ∧ Below w.heap.size w w' := by
  go_enter Try.func20, Try.ntmps20
  go_wp2_with fail
  refine (HeadW.write_yes 0 500 false _ (by decide) (by omega) (by omega)).mono ?_
  rintro e w1 ⟨v, rfl, ho, hb1⟩
  rw [show HeadP.bytes 0 500 false = [25, 1, 244] from by decide] at ho
  obtain ⟨A, c, rfl, hc, hm, hl⟩ := own_slice ho
  simp only [List.length_cons, List.length_nil, Nat.zero_add, Nat.reduceAdd] at ho hl hc
  have HO := Lib.hid ho
  have HB1 := Lib.hid hb1
  clear ho hb1 hl
  go_wp2_with fail
  have hl1 := Lst.lit w1 #[.int .u8 0, .int .u8 159] 5
  refine (HeadR.read_any _ _ 2 [0, 159] 1 _ hl1 (by simp) (by decide) (by decide) (by decide)).mono ?_
  rintro e w2 ⟨rfl, hb2⟩
  rw [show HeadP.read [0, 159] 1 = (4, 0, true, 2, 0) from by decide]
  unfold HeadR.res
  have hb2 := below_box (Below.refl w1.heap.size w1) (Nat.le_refl _) hb2
  have hs2 := hb2.size
  have HB2 := Lib.hid hb2
  clear hb2 hl1
  go_wp2_with fail
  have hl2 := Lst.lit (w2.alloc (.cells #[.int .i64 4, .int .u64 0, .bool true] 54)) #[.int .u8 31] 5
  simp only [World.size_alloc] at hl2
  refine (HeadR.read_any _ _ 1 [31] 0 _ hl2 (by simp) (by decide) (by decide) (by decide)).mono ?_
  rintro e w3 ⟨rfl, hb3⟩
  rw [show HeadP.read [31] 0 = (0, 0, false, 0, 3) from by decide]
  unfold HeadR.res
  have hb3 := below_box (Below.refl _ _) (Nat.le_refl _) hb3
  obtain ⟨c0, c1, c2, hs3, hb3⟩ := box3 hb3
  have HB3 := Lib.hid hb3
  clear hb3 hl2
  go_wp2_with fail
  have hl3 := Lst.lit (w3.alloc (.cells #[.int .i64 0, .int .u64 0, .bool false] 54)) #[.int .u8 24] 5
  simp only [World.size_alloc] at hl3
  refine (HeadR.read_any _ _ 1 [24] 0 _ hl3 (by simp) (by decide) (by decide) (by decide)).mono ?_
  rintro e w4 ⟨rfl, hb4⟩
  rw [show HeadP.read [24] 0 = (0, 0, false, 0, 8) from by decide]
  unfold HeadR.res
  have hb4 := below_box (Below.refl _ _) (Nat.le_refl _) hb4
  obtain ⟨_, _, _, hs4, hb4⟩ := box3 hb4
  have c0 := cell_next c0 hb4 hs3
  have c1 := cell_next c1 hb4 hs3
  have c2 := cell_next c2 hb4 hs3
  have HB4 := Lib.hid (HB3.out.trans (hb4.mono (by omega)))
  clear hb4 hl3
  have hcv := str_of HO.out rfl ((HB2.out.trans (HB4.out.mono hs2)).alloc (by omega) (.cells #[.int .i64 0, .int .u64 0, .bool false] 54))
  rw [show strOfNums [25, 1, 244] = ⟨#[25, 1, 244]⟩ from by rfl] at hcv
  have hs24 : w2.heap.size < w4.heap.size := by omega
  go_wp2_with fail
  have hl4 := Lst.lit (w4.alloc (.cells #[.int .i64 0, .int .u64 0, .bool false] 54)) #[.int .u8 24, .int .u8 5] 5
  simp only [World.size_alloc] at hl4
  refine (HeadS.shortest_any _ _ 2 [24, 5] 0 _ hl4 (by simp) (by decide) (by decide) (by decide)).mono ?_
  rintro e w5 ⟨rfl, hb5⟩
  rw [show HeadP.shortest [24, 5] 0 = false from by decide]
  have hb5 := below_box (Below.refl _ _) (Nat.le_refl _) hb5
  have hb5 := below_box (Below.refl _ _) (Nat.le_refl _) hb5
  have HB5 := Lib.hid (HB4.out.trans (hb5.mono (by omega)))
  clear hb5 hl4 hcv
  go_wp2_with fail
  have hl5 := Lst.lit w5 #[.int .u8 24, .int .u8 24] 5
  refine (HeadS.shortest_any _ _ 2 [24, 24] 0 _ hl5 (by simp) (by decide) (by decide) (by decide)).mono ?_
  rintro e w6 ⟨rfl, hb6⟩
  rw [show HeadP.shortest [24, 24] 0 = true from by decide]
  have hb6 := below_box HB5.out HB5.out.size hb6
  have HB6 := Lib.hid hb6
  clear hb6 hl5
  go_wp2_with fail
  go_ret
  have := HB1.out.size
  exact ⟨rfl, HB1.out.trans ((HB2.out.trans (HB6.out.mono hs2)).mono (by omega))⟩
end Go.Proofs.Ytgjihjijlhdjdaa.HeadAlive
