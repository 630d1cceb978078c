/- The walk of the statement HeadReads. -/
import Derived.Test.YtgjihjijlhdjdaaHeadAlive
import Derived.Test.YtgjihjijlhdjdaaRefRead
import Derived.Deep.RegionHeld3
import Derived.Deep.DrawnRows
namespace Go.Proofs.Ytgjihjijlhdjdaa.HeadReads
open Go.RowKit Wd HeadAlive
attribute [local go_sem ↓] Go.wp_at_zero Go.wp_at_succ

set_option maxRecDepth 100000 in
set_option maxHeartbeats 1000000 in
theorem walk_long (A : Option Addr) (n c : Nat) (i : Int) (w : World) (h : 200 < n) :
    Calls Try.prog 8 #[.slice A n c, .int .i64 i] w fun e w' => e = .returned (.bool true) ∧ Below w.heap.size w w' := by
  go_enter Try.func8, Try.ntmps8
  go_wp2_with fail
  refine (alive_any _).mono ?_
  rintro e w3 ⟨rfl, hb3⟩
  have HB3 := Lib.hid hb3
  clear hb3
  go_wp2_with fail
  go_ret
  exact ⟨rfl, HB3.out⟩

set_option maxRecDepth 100000 in
set_option maxHeartbeats 6000000 in
theorem walk_in (A : Option Addr) (c : Nat) (xs : List Int) (i : Int) (w : World) (h : xs.length ≤ 200) (hs : Lst w w.heap.size A (u8s xs)) (hx : St.bts xs) (hc : xs.length ≤ c) (hm : c ≤ maxLen) :
    Calls Try.prog 8 #[.slice A xs.length c, .int .i64 i] w fun e w' => e = .returned (.bool true) ∧ Below w.heap.size w w' := by
  have hok := HeadP.read_ok xs i hx
  have hag := HeadP.read_again_at xs hx
  have hsf : (HeadP.read xs i).2.2.2.2 ≠ 0 → HeadP.shortest xs i = false := fun h => by unfold HeadP.shortest; simp [h]
  have R1 := Lib.hid (fun W (hb : Below w.heap.size w W) => HeadR.read_any A w.heap.size c xs i W (hs.below hb) hb.size hx hc hm)
  have R2 := Lib.hid (fun W (hb : Below w.heap.size w W) => RefHead.read_any A w.heap.size c xs i W (hs.below hb) hb.size hx hc hm)
  have SH := Lib.hid (fun W (hb : Below w.heap.size w W) => HeadS.shortest_any A w.heap.size c xs i W (hs.below hb) hb.size hx hc hm)
  generalize hR : HeadP.read xs i = t at *
  obtain ⟨m, n, o, j, f⟩ := t
  have HR := Lib.hid hR
  have HK := Lib.hid hok
  have HG := Lib.hid hag
  have HF := Lib.hid hsf
  have HS := Lib.hid hs
  have HX := Lib.hid hx
  clear hR hok hag hsf hs hx
  go_enter Try.func8, Try.ntmps8
  go_wp2_with fail
  refine (R1.out _ (Below.refl _ _)).mono ?_
  rintro e w1 ⟨rfl, hb1⟩
  unfold HeadR.res
  have HB1 := Lib.hid hb1
  clear hb1
  go_wp2_with fail
  refine (R2.out _ (HB1.out.alloc HB1.out.size _)).mono ?_
  rintro e w2 ⟨rfl, hb2⟩
  unfold HeadR.res
  have HB2 := Lib.hid (below_box HB1.out HB1.out.size hb2)
  have HK1 := Lib.hid ((Blk.new w1 54 #[.int .i64 m, .int .u64 n, .bool o]).next hb2)
  clear hb2
  have HB3 := Lib.hid (HB2.out.alloc HB2.out.size (.cells #[.int .i64 m, .int .u64 n, .bool o] 55))
  have HK2 := Lib.hid (HK1.out.alloc (.cells #[.int .i64 m, .int .u64 n, .bool o] 55))
  have HK3 := Lib.hid (Blk.new w2 55 #[.int .i64 m, .int .u64 n, .bool o])
  by_cases hf : f = 0
  · subst hf
    obtain ⟨k1, k2, k3, k4, k5, k6⟩ := HK.out _ _ _ _ rfl
    obtain ⟨k, rfl⟩ := Int.eq_ofNat_of_zero_le k1
    obtain ⟨q, rfl⟩ := Int.eq_ofNat_of_zero_le (show 0 ≤ j by omega)
    have hg := HG.out k m n o q HR.out
    have hbb := HeadP.bytes_bound m n o k4 k5
    have hV := fun W => RefHead.write_any m n o W k4 k5 k6
    clear HG HF HK
    generalize HeadP.bytes m n o = bs at *
    have hxp : St.bts ((xs.drop k).take (q - k)) := fun x h => HX.out x (List.mem_of_mem_drop (List.mem_of_mem_take h))
    have hq := St.nums_beq bs ((xs.drop k).take (q - k)) hbb hxp
    obtain ⟨b, oo, rfl, hb, hcell⟩ := HS.out.bytes (k := k) (by omega)
    have KS : ∀ W, Below w.heap.size w W → (convert 22 9 (.slice (some ⟨b, oo + k, none⟩) (q - k) (c - k))).run Try.prog W = .ok (.string (strOfNums ((xs.drop k).take (q - k)))) W := by
      intro W hW
      have hp := Lst.piece (w' := W) (B' := w.heap.size) hcell hb (fun p hp => hW.cell (by omega)) k (q - k) (by omega)
      have := run_string (P := Try.prog) hp _ _ _ Try.underlying22 Try.underlying5 Try.underlying9 (c - k)
      rwa [show ((xs.drop k).take (q - k)).length = q - k by simp; omega] at this
    have HKS := Lib.hid KS
    have HQ := Lib.hid hq
    have HGG := Lib.hid hg
    have HV := Lib.hid hV
    clear KS hq hg hV hcell hbb hxp
    have hck : ¬ c = k := by omega
    have i0 : (0 : Int) ≤ (k : Int) := by omega
    have i1 : (k : Int) ≤ (q : Int) := by omega
    have i2 : (q : Int) ≤ (c : Int) := by omega
    have hk3 := (HK3.out.drew).three
    have cv0 := HKS.out _ HB3.out.drew
    go_wp2_with fail
    go_region_with (first | (go_at_call 23; refine (HV.out _).mono ?_; rintro e w3 ⟨A3, c3, rfl, hl3, hb3⟩; have cv3 := run_string (P := Try.prog) hl3 _ _ _ Try.underlying22 Try.underlying5 Try.underlying9 c3; have cv4 := HKS.out _ (below_next HB3.out.drew HB3.out.drew.size hb3)))
    all_goals
      have HB4 := Lib.hid (below_next HB3.out.drew HB3.out.drew.size hb3)
      have HK4 := Lib.hid ((HK2.out.drew).next hb3)
      have HK5 := Lib.hid ((HK3.out.drew).next hb3)
      have hgg := HGG.out
      have hqq := HQ.out
      clear cv0 cv3 cv4 hl3 hb3 HB1 HB2 HB3 HK1 HK2 HK3 hk3
      go_wp2_with fail
      refine (alive_any _).mono ?_
      rintro e w4 ⟨rfl, hb4⟩
      have HB6 := Lib.hid (below_next HB4.out HB4.out.size hb4)
      obtain ⟨a0, a1, a2⟩ := (HK4.out.next hb4).three
      obtain ⟨b0, b1, b2⟩ := (HK5.out.next hb4).three
      clear hb4 HB4 HK4 HK5
      go_wp2_with fail
      refine (SH.out _ HB6.out).mono ?_
      rintro e w5 ⟨rfl, hb5⟩
      have HB7 := Lib.hid (below_next HB6.out HB6.out.size hb5)
      clear hb5 HB6 a0 a1 a2 b0 b1 b2
      go_wp2_with fail
      go_ret
      exact ⟨ret_bool (by simp [hgg, hqq]), HB7.out⟩
  · have hf' : (f == 0) = false := by simpa using hf
    have hsh := HF.out hf
    rw [hsh] at SH
    clear HG HF HK hsh
    go_wp2_with fail
    go_quiet (fail)
    have HB4 := Lib.hid (below_drewN HB3.out nq)
    have HK4 := Lib.hid (HK2.out.drewN nq)
    have HK5 := Lib.hid (HK3.out.drewN nq)
    clear HB1 HB2 HB3 HK1 HK2 HK3
    go_wp2_with fail
    refine (alive_any _).mono ?_
    rintro e w4 ⟨rfl, hb4⟩
    have HB6 := Lib.hid (below_next HB4.out HB4.out.size hb4)
    obtain ⟨a0, a1, a2⟩ := (HK4.out.next hb4).three
    obtain ⟨b0, b1, b2⟩ := (HK5.out.next hb4).three
    clear hb4 HB4 HK4 HK5
    go_wp2_with fail
    refine (SH.out _ HB6.out).mono ?_
    rintro e w5 ⟨rfl, hb5⟩
    have HB7 := Lib.hid (below_next HB6.out HB6.out.size hb5)
    clear hb5 HB6 a0 a1 a2 b0 b1 b2
    go_wp2_with fail
    go_ret
    exact ⟨rfl, HB7.out⟩

theorem walk (A : Option Addr) (c : Nat) (xs : List Int) (i : Int) (w : World) (hc : xs.length ≤ c) (hm : c ≤ maxLen) (hs : Lst w w.heap.size A (u8s xs)) (hx : St.bts xs) (_hi : -9223372036854775808 ≤ i ∧ i ≤ 9223372036854775807) :
    Calls Try.prog 8 #[.slice A xs.length c, .int .i64 i] w fun e w' => e = .returned (.bool true) ∧ Below w.heap.size w w' := by
  by_cases h : 200 < xs.length
  · exact walk_long A _ c i w h
  · exact walk_in A c xs i w (by omega) hs hx hc hm
end Go.Proofs.Ytgjihjijlhdjdaa.HeadReads
