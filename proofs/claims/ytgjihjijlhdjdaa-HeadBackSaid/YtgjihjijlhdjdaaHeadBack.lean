/- The walk of the statement HeadBack. -/
import Derived.Test.YtgjihjijlhdjdaaHeadAlive
import Derived.Test.YtgjihjijlhdjdaaHeadBackP
import Derived.Test.YtgjihjijlhdjdaaApp
import Derived.Deep.RegionHeld3
import Derived.Deep.DrawnRows
namespace Go.Proofs.Ytgjihjijlhdjdaa.HeadBack
open Go.RowKit Wd HeadAlive
attribute [local go_sem ↓] Go.wp_at_zero Go.wp_at_succ

set_option maxRecDepth 100000 in
set_option maxHeartbeats 400000 in
theorem walk_long (m n : Int) (o : Bool) (A1 A2 A3 : Option Addr) (n1 n2 n3 c1 c2 c3 : Nat) (w : World) (h : 50 < n1 ∨ 50 < n2 ∨ 50 < n3) :
    Calls Try.prog 9 #[.agg #[.int .i64 m, .int .u64 n, .bool o], .slice A1 n1 c1, .slice A2 n2 c2, .slice A3 n3 c3] w fun e w' => e = .returned (.bool true) ∧ Below w.heap.size w w' := by
  by_cases h1 : 50 < n1
  · go_enter Try.func9, Try.ntmps9
    go_wp2_with fail
    refine (alive_any _).mono ?_
    rintro e w3 ⟨rfl, hb3⟩
    have HB3 := Lib.hid (below_box (Below.refl _ _) (Nat.le_refl _) hb3)
    clear hb3
    go_wp2_with fail
    go_ret
    exact ⟨rfl, HB3.out⟩
  by_cases h2 : 50 < n2
  · go_enter Try.func9, Try.ntmps9
    go_wp2_with fail
    refine (alive_any _).mono ?_
    rintro e w3 ⟨rfl, hb3⟩
    have HB3 := Lib.hid (below_box (Below.refl _ _) (Nat.le_refl _) hb3)
    clear hb3
    go_wp2_with fail
    go_ret
    exact ⟨rfl, HB3.out⟩
  · have h3 : 50 < n3 := by omega
    clear h
    go_enter Try.func9, Try.ntmps9
    go_wp2_with fail
    refine (alive_any _).mono ?_
    rintro e w3 ⟨rfl, hb3⟩
    have HB3 := Lib.hid (below_box (Below.refl _ _) (Nat.le_refl _) hb3)
    clear hb3
    go_wp2_with fail
    go_ret
    exact ⟨rfl, HB3.out⟩

set_option maxRecDepth 100000 in
set_option maxHeartbeats 1000000 in
theorem walk_no (m n : Int) (o : Bool) (A1 A2 A3 : Option Addr) (n1 n2 c1 c2 c3 : Nat) (xs : List Int) (w : World) (h1 : n1 ≤ 50) (h2 : n2 ≤ 50) (h3 : xs.length ≤ 50) (hr : HeadP.right m n o = false)
    (hs : Lst w w.heap.size A3 (u8s xs)) (hc : xs.length ≤ c3) (hm : c3 ≤ maxLen) (hx : St.bts xs) :
    Calls Try.prog 9 #[.agg #[.int .i64 m, .int .u64 n, .bool o], .slice A1 n1 c1, .slice A2 n2 c2, .slice A3 xs.length c3] w fun e w' => e = .returned (.bool true) ∧ Below w.heap.size w w' := by
  have hag := HeadP.read_again xs hx
  have hok := HeadP.read_ok xs 0 hx
  have HG := Lib.hid hag
  have HK := Lib.hid hok
  have HS := Lib.hid hs
  have HX := Lib.hid hx
  clear hag hok hs hx
  go_enter Try.func9, Try.ntmps9
  go_wp2_with fail
  refine (HeadW.write_no m n o _ hr).mono ?_
  rintro e w1 ⟨rfl, hb1⟩
  have HB1 := Lib.hid (below_box (Below.refl _ _) (Nat.le_refl _) hb1)
  clear hb1
  go_wp2_with fail
  refine (HeadR.read_any A3 w.heap.size c3 xs 0 _ (HS.out.below HB1.out) HB1.out.size HX.out hc hm).mono ?_
  rintro e w2 ⟨rfl, hb2⟩
  have HB2 := Lib.hid (below_next HB1.out HB1.out.size hb2)
  clear hb2
  generalize hR : HeadP.read xs 0 = t at *
  have HR := Lib.hid hR
  clear hR
  obtain ⟨m1, n1', o1, j, f⟩ := t
  unfold HeadR.res
  by_cases hf : f = 0
  · subst hf
    obtain ⟨g1, g2⟩ := HG.out _ _ _ _ rfl
    obtain ⟨k1, k2, k3, k4, k5, k6⟩ := HK.out _ _ _ _ rfl
    clear HG HK
    obtain ⟨k, rfl⟩ := Int.eq_ofNat_of_zero_le (show 0 ≤ j by omega)
    simp only [Int.toNat_natCast] at g1
    go_wp2_with fail
    refine (HeadW.write_yes m1 n1' o1 _ k4 k5 k6).mono ?_
    rintro e w3 ⟨v, rfl, ho, hb3⟩
    obtain ⟨A, c, rfl, _, _, hl⟩ := own_slice ho
    have HB3 := Lib.hid (below_box HB2.out HB2.out.size hb3)
    have q2 := St.nums_beq (HeadP.bytes m1 n1' o1) (xs.take k) (HeadP.bytes_bound _ _ _ k4 k5) (fun x h => HX.out x (List.mem_of_mem_take h))
    generalize HeadP.bytes m1 n1' o1 = ys at *
    have KS : ∀ W, Below w3.heap.size w3 W →
        (convert 22 9 (.slice A ys.length c)).run Try.prog W = .ok (.string (strOfNums ys)) W ∧ (convert 22 9 (.slice A3 k c3)).run Try.prog W = .ok (.string (strOfNums (xs.take k))) W := by
      intro W hW
      refine ⟨str_of ho rfl hW, ?_⟩
      have hls : Lst W w.heap.size A3 (u8s (xs.take k)) := (HS.out.below (HB3.out.trans (hW.mono HB3.out.size))).prefix_ k
      have := run_string (P := Try.prog) hls _ _ _ Try.underlying22 Try.underlying5 Try.underlying9 c3
      rwa [show (xs.take k).length = k by simp; omega] at this
    have HKS := Lib.hid KS
    have SH := Lib.hid (fun W (h : Below w.heap.size w W) => HeadS.shortest_any A3 w.heap.size c3 xs 0 W (HS.out.below h) h.size HX.out hc hm)
    clear KS ho hb3 hl
    go_wp2_with fail
    have i0 : (0 : Int) ≤ (k : Int) := by omega
    have i1 : (k : Int) ≤ (c3 : Int) := by omega
    go_region_held3 (fun w' => (convert 22 9 (.slice A ys.length c)).run Try.prog w' = .ok (.string (strOfNums ys)) w' ∧ (convert 22 9 (.slice A3 k c3)).run Try.prog w' = .ok (.string (strOfNums (xs.take k))) w')
      (first | exact HKS.out _ hk5 | exact HKS.out _ hk4 | exact HKS.out _ (Below.drew (Below.refl _ _)))
      (first | (go_at_call 20; refine (alive_any _).mono ?_; rintro e w4 ⟨rfl, hb4⟩; have hk4 := Below.trans (b := w3.drew) (Below.drew (Below.refl w3.heap.size w3)) hb4; clear hb4) | (go_at_call 26; refine (SH.out _ (HB3.out.trans (hk4.mono HB3.out.size))).mono ?_; rintro e w5 ⟨rfl, hb5⟩; have hk5 := below_next hk4 hk4.size hb5; clear hb5))
    go_wp2_with fail
    go_ret
    refine ⟨ret_bool ?_, HB3.out.trans (hk5.mono HB3.out.size)⟩
    simp [g1, q2]
  · have hf' : (f != 0) = true := by simpa using hf
    have hf2 : (f == 0) = false := by simpa using hf
    have hsh : HeadP.shortest xs 0 = false := by unfold HeadP.shortest; rw [HR.out]; simp [hf]
    have SH := Lib.hid (fun W (h : Below w.heap.size w W) => HeadS.shortest_any A3 w.heap.size c3 xs 0 W (HS.out.below h) h.size HX.out hc hm)
    clear HG HK
    go_wp2_with fail
    refine (alive_any _).mono ?_
    rintro e w4 ⟨rfl, hb4⟩
    have HB4 := Lib.hid (below_box HB2.out HB2.out.size hb4)
    clear hb4
    go_wp2_with fail
    refine (SH.out _ HB4.out).mono ?_
    rintro e w5 ⟨rfl, hb5⟩
    rw [hsh]
    have HB5 := Lib.hid (below_next HB4.out HB4.out.size hb5)
    clear hb5
    go_wp2_with fail
    go_ret
    exact ⟨rfl, HB5.out⟩

theorem info_u8 : (Try.prog.info? 5).map (fun i => (i.zero, i.size, i.bytes)) = some (some (.int .u8 0), 1, 1) := by kernel_rfl

set_option maxRecDepth 100000 in
set_option maxHeartbeats 1000000 in
theorem walk_yes (m n : Int) (o : Bool) (A1 A2 A3 : Option Addr) (c1 c2 c3 : Nat) (x1 x2 xs : List Int) (w : World) (h1 : x1.length ≤ 50) (h2 : x2.length ≤ 50) (h3 : xs.length ≤ 50) (hr : HeadP.right m n o = true)
    (hn0 : 0 ≤ n) (hn1 : n ≤ 18446744073709551615) (hs1 : Lst w w.heap.size A1 (u8s x1)) (hs2 : Lst w w.heap.size A2 (u8s x2)) (hx1 : St.bts x1) (hx2 : St.bts x2)
    (hs : Lst w w.heap.size A3 (u8s xs)) (hc : xs.length ≤ c3) (hm : c3 ≤ maxLen) (hx : St.bts xs) :
    Calls Try.prog 9 #[.agg #[.int .i64 m, .int .u64 n, .bool o], .slice A1 x1.length c1, .slice A2 x2.length c2, .slice A3 xs.length c3] w fun e w' => e = .returned (.bool true) ∧ Below w.heap.size w w' := by
  have hag := HeadP.read_again xs hx
  have hok := HeadP.read_ok xs 0 hx
  have hrb := HeadP.read_back m n o x1 x2 hr hn0 hn1
  have hsb := HeadP.shortest_back m n o x1 x2 hr hn0 hn1
  have hbb := HeadP.bytes_bound m n o hr hn0
  have hbl : (HeadP.bytes m n o).length ≤ 9 := by
    have hf := HeadP.following_le (HeadP.low n o)
    simp only [HeadP.bytes, List.length_cons, HeadP.be_length]; omega
  have HW := fun W => HeadW.write_yes m n o W hr hn0 hn1
  have hall : St.bts (x1 ++ HeadP.bytes m n o ++ x2) := fun z hz => by
    simp only [List.mem_append] at hz
    rcases hz with (hz | hz) | hz
    · exact hx1 z hz
    · exact hbb z hz
    · exact hx2 z hz
  generalize HeadP.bytes m n o = bs at *
  have HWR := Lib.hid HW
  have HRB := Lib.hid hrb
  have HSB := Lib.hid hsb
  have HAL := Lib.hid hall
  have HG := Lib.hid hag
  have HK := Lib.hid hok
  have HS := Lib.hid hs
  have HS1 := Lib.hid hs1
  have HS2 := Lib.hid hs2
  have HX := Lib.hid hx
  clear hag hok hs hx hs1 hs2 hx1 hx2 hrb hsb hall hbb HW
  obtain ⟨i0, hi0, hz0, hz1, hz2⟩ := info_parts info_u8
  go_enter Try.func9, Try.ntmps9
  go_wp2_with fail
  refine (HWR.out _).mono ?_
  rintro e w1 ⟨v, rfl, ho, hb1⟩
  obtain ⟨A, c, rfl, _, _, hl⟩ := own_slice ho
  obtain ⟨d0, d1, d2, hd, hb1'⟩ := box3 hb1
  have HB1 := Lib.hid hb1'
  have HO := Lib.hid ho
  clear hb1 hb1' ho hl
  have hmx : ∀ k, k ≤ 200 → k ≤ maxLen := fun k hk => by unfold maxLen; omega
  have HM := Lib.hid hmx
  clear hmx
  go_wp2_with (first
    | (at_builtin
       refine wpList_append_lst _ rfl (.tmp 41) (.tmp 42) _ (by rfl) w1.heap.size 5 i0 _ 1 Try.underlying22 hi0 hz0 hz1 hz2 rfl (.slice (some ⟨w1.heap.size, 0, none⟩) 0 0) 0 [] (by rfl)
         (World.ownsRow_lit w1 #[] 0 (Nat.le_refl _) (HM.out 0 (by omega)) rfl) w.heap.size A1 x1.length c1 (u8s x1) (by rfl) (by simp) ((HS1.out.below HB1.out).below (((Below.refl w.heap.size w1).alloc (by omega) _))) (u8_one x1) (HM.out _ (by omega)) (by omega) (by simp) ?_
       intro v2 w2 hown2 hg2 hat2
       have hb2 : Below w1.heap.size w1 w2 := ((Below.refl _ _).alloc (Nat.le_refl _) _).grown hg2 (by simp) (fun k hk => by simp [Value.ownBlock] at hk; omega)
       have hat2' : ∀ k, v2.ownBlock = some k → w1.heap.size ≤ k := fun k hk => by rcases hat2 with e | e <;> rw [e] at hk <;> simp [Value.ownBlock] at hk <;> omega
       have HO2 := Lib.hid hown2
       have HB2 := Lib.hid hb2
       have HA2 := Lib.hid hat2'
       clear hown2 hg2 hat2 hb2 hat2')
    | (at_builtin
       refine wpList_append_lst _ rfl (.tmp 43) (.tmp 44) _ (by rfl) w1.heap.size 5 i0 _ 1 Try.underlying22 hi0 hz0 hz1 hz2 rfl v2 (0 + x1.length) ([] ++ u8s x1) (by rfl)
         HO2.out w1.heap.size A bs.length c (u8s bs) (by rfl) (by simp) ((Lst.of_own HO.out).below HB2.out) (u8_one bs) (HM.out _ (by omega)) (by omega) HB2.out.size ?_
       intro v3 w3 hown3 hg3 hat3
       have hb3 : Below w1.heap.size w1 w3 := HB2.out.grown hg3 HB2.out.size HA2.out
       have hat3' : ∀ k, v3.ownBlock = some k → w1.heap.size ≤ k := fun k hk => by
         have := HB2.out.size
         rcases hat3 with e | e
         · exact HA2.out k (by rw [← e]; exact hk)
         · rw [e] at hk; injection hk with hk; omega
       have HO3 := Lib.hid hown3
       have HB3 := Lib.hid hb3
       have HA3 := Lib.hid hat3'
       clear hown3 hg3 hat3 hb3 hat3')
    | (at_builtin
       refine wpList_append_lst _ rfl (.tmp 45) (.tmp 46) _ (by rfl) w1.heap.size 5 i0 _ 1 Try.underlying22 hi0 hz0 hz1 hz2 rfl v3 (0 + x1.length + bs.length) ([] ++ u8s x1 ++ u8s bs) (by rfl)
         HO3.out w.heap.size A2 x2.length c2 (u8s x2) (by rfl) (by simp) (HS2.out.below (HB1.out.trans (HB3.out.mono HB1.out.size))) (u8_one x2) (HM.out _ (by omega)) (by omega) HB3.out.size ?_
       intro v4 w4 hown4 hg4 hat4
       have hb4 : Below w1.heap.size w1 w4 := HB3.out.grown hg4 HB3.out.size HA3.out
       have HO4 := Lib.hid hown4
       have HB4 := Lib.hid hb4
       clear hown4 hg4 hat4 hb4))
  have ho4 : w4.ownsRow w1.heap.size 5 1 v4 (x1 ++ bs ++ x2).length (u8s (x1 ++ bs ++ x2)) := by
    have h := HO4.out
    simpa [u8s, Nat.add_assoc] using h
  obtain ⟨A4, c4, rfl, hc4, hm4, _⟩ := own_slice ho4
  have e0 := (HB4.out.cell (p := ⟨w.heap.size, 0, none⟩) hd).trans d0
  have e1 := (HB4.out.cell (p := ⟨w.heap.size, 1, none⟩) hd).trans d1
  have e2 := (HB4.out.cell (p := ⟨w.heap.size, 2, none⟩) hd).trans d2
  have hd4 : w.heap.size < w4.heap.size := by have := HB4.out.size; omega
  have HL4 := Lib.hid (Lst.of_own ho4)
  have HBW4 := Lib.hid (HB1.out.trans (HB4.out.mono HB1.out.size))
  clear d0 d1 d2 ho4
  refine (HeadR.read_any A4 _ c4 (x1 ++ bs ++ x2) x1.length _ HL4.out (Nat.le_refl _) HAL.out hc4 hm4).mono ?_
  rintro e w5 ⟨rfl, hb5⟩
  rw [HRB.out]
  unfold HeadR.res
  have g0 := cell_next e0 hb5 hd4
  have g1' := cell_next e1 hb5 hd4
  have g2' := cell_next e2 hb5 hd4
  have hd5 : w.heap.size < w5.heap.size := by have := hb5.size; omega
  have HB5 := Lib.hid (below_next HBW4.out HBW4.out.size hb5)
  have HL5 := Lib.hid (HL4.out.below hb5)
  have hs45 := hb5.size
  clear e0 e1 e2 hb5
  have hsum : (((x1.length : Int) + (bs.length : Int)) != (x1.length : Int) + (bs.length : Int)) = false := by simp
  have SQ := HeadS.shortest_any A4 w4.heap.size c4 (x1 ++ bs ++ x2) x1.length (w5.alloc (.cells #[.int .i64 m, .int .u64 n, .bool o] 54)) (HL5.out.below' ((Below.refl w5.heap.size w5).alloc (Nat.le_refl _) _) hs45)
    (by simp; omega) HAL.out hc4 hm4
  rw [HSB.out, List.length_append, List.length_append, Nat.add_assoc] at SQ
  have HSQ := Lib.hid SQ
  clear SQ
  go_wp2_with fail
  refine HSQ.out.mono ?_
  rintro e w6 ⟨rfl, hb6⟩
  have HX1 := Lib.hid (below_box HB5.out HB5.out.size hb6)
  clear hb6 HSQ HL4 HL5 HO HO2 HO3 HO4 HB1 HB2 HB3 HB4 HB5 HBW4 g0 g1' g2' hsum hd hd4 hd5 hs45
  go_wp2_with fail
  refine (HeadR.read_any A3 w.heap.size c3 xs 0 _ (HS.out.below HX1.out) HX1.out.size HX.out hc hm).mono ?_
  rintro e u2 ⟨rfl, hz2'⟩
  have HX2 := Lib.hid (below_next HX1.out HX1.out.size hz2')
  clear hz2'
  generalize hR : HeadP.read xs 0 = t at *
  have HR := Lib.hid hR
  clear hR
  obtain ⟨m1, n1', o1, j, f⟩ := t
  unfold HeadR.res
  by_cases hf : f = 0
  · subst hf
    obtain ⟨g1, g2⟩ := HG.out _ _ _ _ rfl
    obtain ⟨k1, k2, k3, k4, k5, k6⟩ := HK.out _ _ _ _ rfl
    clear HG HK
    obtain ⟨k, rfl⟩ := Int.eq_ofNat_of_zero_le (show 0 ≤ j by omega)
    simp only [Int.toNat_natCast] at g1
    go_wp2_with fail
    refine (HeadW.write_yes m1 n1' o1 _ k4 k5 k6).mono ?_
    rintro e u3 ⟨v, rfl, ho, hz3'⟩
    obtain ⟨A, c, rfl, _, _, hl⟩ := own_slice ho
    have HX3 := Lib.hid (below_box HX2.out HX2.out.size hz3')
    have q2 := St.nums_beq (HeadP.bytes m1 n1' o1) (xs.take k) (HeadP.bytes_bound _ _ _ k4 k5) (fun x h => HX.out x (List.mem_of_mem_take h))
    generalize HeadP.bytes m1 n1' o1 = ys at *
    have KS : ∀ W, Below u3.heap.size u3 W →
        (convert 22 9 (.slice A ys.length c)).run Try.prog W = .ok (.string (strOfNums ys)) W ∧ (convert 22 9 (.slice A3 k c3)).run Try.prog W = .ok (.string (strOfNums (xs.take k))) W := by
      intro W hW
      refine ⟨str_of ho rfl hW, ?_⟩
      have hls : Lst W w.heap.size A3 (u8s (xs.take k)) := (HS.out.below (HX3.out.trans (hW.mono HX3.out.size))).prefix_ k
      have := run_string (P := Try.prog) hls _ _ _ Try.underlying22 Try.underlying5 Try.underlying9 c3
      rwa [show (xs.take k).length = k by simp; omega] at this
    have HKS := Lib.hid KS
    have SH := Lib.hid (fun W (h : Below w.heap.size w W) => HeadS.shortest_any A3 w.heap.size c3 xs 0 W (HS.out.below h) h.size HX.out hc hm)
    clear KS ho hz3' hl
    go_wp2_with fail
    have i0 : (0 : Int) ≤ (k : Int) := by omega
    have i1 : (k : Int) ≤ (c3 : Int) := by omega
    go_region_held3 (fun w' => (convert 22 9 (.slice A ys.length c)).run Try.prog w' = .ok (.string (strOfNums ys)) w' ∧ (convert 22 9 (.slice A3 k c3)).run Try.prog w' = .ok (.string (strOfNums (xs.take k))) w')
      (first | exact HKS.out _ hk5 | exact HKS.out _ hk4 | exact HKS.out _ (Below.drew (Below.refl _ _)))
      (first | (go_at_call 20; refine (alive_any _).mono ?_; rintro e u4 ⟨rfl, hz4'⟩; have hk4 := Below.trans (b := u3.drew) (Below.drew (Below.refl u3.heap.size u3)) hz4'; clear hz4') | (go_at_call 26; refine (SH.out _ (HX3.out.trans (hk4.mono HX3.out.size))).mono ?_; rintro e u5 ⟨rfl, hz5'⟩; have hk5 := below_next hk4 hk4.size hz5'; clear hz5'))
    go_wp2_with fail
    go_ret
    refine ⟨ret_bool ?_, HX3.out.trans (hk5.mono HX3.out.size)⟩
    simp [g1, q2]
  · have hf' : (f != 0) = true := by simpa using hf
    have hf2 : (f == 0) = false := by simpa using hf
    have hsh : HeadP.shortest xs 0 = false := by unfold HeadP.shortest; rw [HR.out]; simp [hf]
    have SH := Lib.hid (fun W (h : Below w.heap.size w W) => HeadS.shortest_any A3 w.heap.size c3 xs 0 W (HS.out.below h) h.size HX.out hc hm)
    clear HG HK
    go_wp2_with fail
    refine (alive_any _).mono ?_
    rintro e u4 ⟨rfl, hz4'⟩
    have HX4 := Lib.hid (below_box HX2.out HX2.out.size hz4')
    clear hz4'
    go_wp2_with fail
    refine (SH.out _ HX4.out).mono ?_
    rintro e u5 ⟨rfl, hz5'⟩
    rw [hsh]
    have HX5 := Lib.hid (below_next HX4.out HX4.out.size hz5')
    clear hz5'
    go_wp2_with fail
    go_ret
    exact ⟨rfl, HX5.out⟩

theorem walk (m n : Int) (o : Bool) (A1 : Option Addr) (c1 : Nat) (x1 : List Int) (A2 : Option Addr) (c2 : Nat) (x2 : List Int) (A3 : Option Addr) (c3 : Nat) (xs : List Int) (w : World)
    (_hm : -9223372036854775808 ≤ m ∧ m ≤ 9223372036854775807) (hn : 0 ≤ n ∧ n ≤ 18446744073709551615)
    (_l1 : x1.length ≤ c1) (_m1 : c1 ≤ maxLen) (s1 : Lst w w.heap.size A1 (u8s x1)) (b1 : St.bts x1) (_l2 : x2.length ≤ c2) (_m2 : c2 ≤ maxLen) (s2 : Lst w w.heap.size A2 (u8s x2)) (b2 : St.bts x2)
    (l3 : xs.length ≤ c3) (m3 : c3 ≤ maxLen) (s3 : Lst w w.heap.size A3 (u8s xs)) (b3 : St.bts xs) :
    Calls Try.prog 9 #[.agg #[.int .i64 m, .int .u64 n, .bool o], .slice A1 x1.length c1, .slice A2 x2.length c2, .slice A3 xs.length c3] w fun e w' => e = .returned (.bool true) ∧ Below w.heap.size w w' := by
  by_cases h : 50 < x1.length ∨ 50 < x2.length ∨ 50 < xs.length
  · exact walk_long m n o A1 A2 A3 _ _ _ c1 c2 c3 w h
  · cases hr : HeadP.right m n o
    · exact walk_no m n o A1 A2 A3 _ _ c1 c2 c3 xs w (by omega) (by omega) (by omega) hr s3 l3 m3 b3
    · exact walk_yes m n o A1 A2 A3 c1 c2 c3 x1 x2 xs w (by omega) (by omega) (by omega) hr hn.1 hn.2 s1 s2 b1 b2 s3 l3 m3 b3
end Go.Proofs.Ytgjihjijlhdjdaa.HeadBack
