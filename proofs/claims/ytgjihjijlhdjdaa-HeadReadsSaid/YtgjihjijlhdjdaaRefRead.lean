/- The document's own answer of layer 2: Read. -/
import Derived.Test.YtgjihjijlhdjdaaRefHead
import Derived.Test.YtgjihjijlhdjdaaHeadR
import Derived.BigRegion
namespace Go.Proofs.Ytgjihjijlhdjdaa.RefHead
open Go.RowKit Wd HeadR

theorem right_open (m : Int) : HeadP.right m 0 true = HeadP.mayOpen m := by simp [HeadP.right]

set_option maxRecDepth 100000 in
set_option maxHeartbeats 2000000 in
theorem read_any (A : Option Addr) (B c : Nat) (xs : List Int) (i : Int) (w : World) (hs : Lst w B A (u8s xs)) (hB : B ≤ w.heap.size) (hx : ∀ x ∈ xs, 0 ≤ x ∧ x ≤ 255) (hc : xs.length ≤ c) (hm : c ≤ maxLen) :
    Calls Try.prog 25 #[.slice A xs.length c, .int .i64 i] w fun e w' => e = res (HeadP.read xs i) ∧ Below w.heap.size w w' := by
  unfold maxLen at hm
  by_cases a0 : i < 0
  · have HR := Lib.hid (HeadP.read_out xs i (.inl a0))
    go_enter Try.func25, Try.ntmps25
    go_wp2_with fail
    exact bodyPost_ret (v := .tuple #[.agg #[.int .i64 0, .int .u64 0, .bool false], .int .i64 0, .int .i64 1]) (by simp [results, Try.results25, go_sem]) rfl ⟨by rw [HR.out]; rfl, (Below.refl _ _).alloc (Nat.le_refl _) _⟩
  by_cases a1 : (xs.length : Int) < i
  · have HR := Lib.hid (HeadP.read_out xs i (.inr a1))
    go_enter Try.func25, Try.ntmps25
    go_wp2_with fail
    exact bodyPost_ret (v := .tuple #[.agg #[.int .i64 0, .int .u64 0, .bool false], .int .i64 0, .int .i64 1]) (by simp [results, Try.results25, go_sem]) rfl ⟨by rw [HR.out]; rfl, (Below.refl _ _).alloc (Nat.le_refl _) _⟩
  obtain ⟨k, rfl⟩ := Int.eq_ofNat_of_zero_le (show 0 ≤ i by omega)
  by_cases a2 : k = xs.length
  · subst a2
    have HR := Lib.hid (HeadP.read_end xs)
    go_enter Try.func25, Try.ntmps25
    go_wp2_with fail
    all_goals exact bodyPost_ret (v := .tuple #[.agg #[.int .i64 0, .int .u64 0, .bool false], .int .i64 0, .int .i64 8]) (by simp [results, Try.results25, go_sem]) rfl ⟨by rw [HR.out]; rfl, (Below.refl _ _).alloc (Nat.le_refl _) _⟩
  have hk : k < xs.length := by omega
  obtain ⟨b, o, rfl, hb, hcell⟩ := hs.bytes hk
  have hy := hcell k hk
  have hbw : b < w.heap.size := by omega
  have hrd := HeadP.read_at xs k hk
  have hyb : 0 ≤ xs.getD k 0 ∧ xs.getD k 0 ≤ 255 := hx _ (by simp [List.getD, List.getElem?_eq_getElem hk])
  generalize hY : xs.getD k 0 = y at *
  have hne : ((k : Int) == (xs.length : Int)) = false := by simp; omega
  have hl := Int.emod_nonneg y (show (32 : Int) ≠ 0 by omega)
  have hl2 := Int.emod_lt_of_pos y (show (0 : Int) < 32 by omega)
  have hfc := HeadP.following_cases (y % 32)
  have HC := Lib.hid hcell
  have HX := Lib.hid hx
  clear hcell hY hs hx a2
  by_cases s0 : y % 32 < 24
  · have hz : HeadP.following (y % 32) = 0 := by omega
    rw [HeadP.readL_low _ _ _ (by omega) hz] at hrd
    have HR := Lib.hid hrd
    clear hrd hz hfc
    go_enter Try.func25, Try.ntmps25
    go_wp2_with fail
    exact bodyPost_ret (v := .tuple #[.agg #[.int .i64 (y / 32), .int .u64 (y % 32), .bool false], .int .i64 (k + 1), .int .i64 0]) (by simp [results, Try.results25, go_sem]) rfl ⟨by rw [HR.out]; rfl, ((Below.refl _ _).alloc (Nat.le_refl _) _).alloc (by simp) _⟩
  by_cases s1 : y % 32 = 31
  · have hz : HeadP.following (y % 32) = 0 := by omega
    rw [HeadP.readL_open _ _ _ (by rw [hz]; simp) (by omega), s1] at hrd
    have hop : HeadP.mayOpen (y / 32) = true → HeadP.opened (y / 32) 31 k = (y / 32, 0, true, (k : Int) + 1, 0) := fun h => by unfold HeadP.opened; rw [if_pos ⟨rfl, h⟩]
    have hop2 : HeadP.mayOpen (y / 32) = false → HeadP.opened (y / 32) 31 k = (0, 0, false, 0, 3) := fun h => by unfold HeadP.opened; rw [if_neg (by simp [h])]
    rw [← hrd] at hop hop2
    have H1 := Lib.hid hop
    have H2 := Lib.hid hop2
    clear hrd hz hfc hop hop2
    go_enter Try.func25, Try.ntmps25
    go_wp2_with fail
    refine (right_any _ _ _ _).mono ?_
    rintro e w3 ⟨rfl, hb3⟩
    rw [right_open]
    obtain ⟨⟨d0, d1, d2⟩, ⟨c0, c1, c2⟩, ⟨z0, z1, z2⟩, hs4, hb4⟩ := box33 hb3
    have HB := Lib.hid hb4
    clear hb3 hb4
    cases hm2 : HeadP.mayOpen (y / 32)
    · have hf := Lib.hid (H2.out hm2)
      clear H1 H2
      go_wp2_with fail
      exact bodyPost_ret (v := .tuple #[.agg #[.int .i64 0, .int .u64 0, .bool false], .int .i64 0, .int .i64 3]) (by simp [results, Try.results25, go_sem, d0, d1, d2, z0, z1, z2]) rfl ⟨by rw [hf.out]; rfl, below_set3 HB.out (Nat.le_refl _) _ _ _⟩
    · have hf := Lib.hid (H1.out hm2)
      clear H1 H2
      go_wp2_with fail
      exact bodyPost_ret (v := .tuple #[.agg #[.int .i64 (y / 32), .int .u64 0, .bool true], .int .i64 (k + 1), .int .i64 0]) (by simp [results, Try.results25, go_sem, d0, d1, d2, z0, z1, z2]) rfl ⟨by rw [hf.out]; rfl, below_set3 HB.out (Nat.le_refl _) _ _ _⟩
  by_cases s2 : 27 < y % 32
  · have hz : HeadP.following (y % 32) = 0 := by omega
    have hop : HeadP.opened (y / 32) (y % 32) k = (0, 0, false, 0, 3) := by unfold HeadP.opened; rw [if_neg (fun h => s1 h.1)]
    rw [HeadP.readL_open _ _ _ (by rw [hz]; simp) (by omega), hop] at hrd
    have HR := Lib.hid hrd
    clear hrd hz hfc hop
    have s1' : (y % 32 == 31) = false := by simpa using s1
    go_enter Try.func25, Try.ntmps25
    go_wp2_with fail
    exact bodyPost_ret (v := .tuple #[.agg #[.int .i64 0, .int .u64 0, .bool false], .int .i64 0, .int .i64 3]) (by simp [results, Try.results25, go_sem]) rfl ⟨by rw [HR.out]; rfl, ((Below.refl _ _).alloc (Nat.le_refl _) _).alloc (by simp) _⟩
  have hcl : (y % 32 = 24 ∧ HeadP.following (y % 32) = 1) ∨ (y % 32 = 25 ∧ HeadP.following (y % 32) = 2) ∨ (y % 32 = 26 ∧ HeadP.following (y % 32) = 4) ∨ (y % 32 = 27 ∧ HeadP.following (y % 32) = 8) := by omega
  clear hfc
  rcases hcl with ⟨h24, hf24⟩ | ⟨h24, hf24⟩ | ⟨h24, hf24⟩ | ⟨h24, hf24⟩
  · have hsh := HeadP.readL_short y (xs.drop (k + 1)) k
    have hmo := fun h => HeadP.readL_more y (xs.drop (k + 1)) k h (by omega) (by omega)
    rw [← hrd, hf24, List.length_drop] at hsh hmo
    have HSH := Lib.hid hsh
    have HMO := Lib.hid hmo
    clear hrd hsh hmo hf24
    by_cases s3 : xs.length - (k + 1) < 1
    · have HR := Lib.hid (HSH.out s3)
      clear HSH HMO
      go_enter Try.func25, Try.ntmps25
      go_wp2_with fail
      exact bodyPost_ret (v := .tuple #[.agg #[.int .i64 0, .int .u64 0, .bool false], .int .i64 0, .int .i64 8]) (by simp [results, Try.results25, go_sem]) rfl
        ⟨by rw [HR.out]; rfl, (((Below.refl _ _).alloc (Nat.le_refl _) _).alloc (by simp) _).alloc (by simp; omega) _⟩
    · have HR := Lib.hid (HMO.out s3)
      clear HSH HMO
      have hlen : k + 1 + 1 ≤ xs.length := by omega
      have HB0 := Lib.hid (((Blk.new (w.alloc (.cells #[.int .i64 0, .int .u64 0, .bool false] 55)) 55 #[.int .i64 (y / 32), .int .u64 0, .bool false]).alloc (.cells #[.int .i64 1, .int .i64 2, .int .i64 4, .int .i64 8] 3)))
      have HB1 := Lib.hid (((Blk.new w 55 #[.int .i64 0, .int .u64 0, .bool false]).alloc (.cells #[.int .i64 (y / 32), .int .u64 0, .bool false] 55)).alloc (.cells #[.int .i64 1, .int .i64 2, .int .i64 4, .int .i64 8] 3))
      have HB2 := Lib.hid ((((Below.refl w.heap.size w).alloc (Nat.le_refl _) (.cells #[.int .i64 0, .int .u64 0, .bool false] 55)).alloc (by simp) (.cells #[.int .i64 (y / 32), .int .u64 0, .bool false] 55)).alloc (by simp; omega) (.cells #[.int .i64 1, .int .i64 2, .int .i64 4, .int .i64 8] 3))
      rw [World.size_alloc] at HB0
      go_enter Try.func25, Try.ntmps25
      go_wp2_with fail
      go_loopw [10] (fun i wr => ∃ j : Nat, j ≤ 1 ∧ i = .int .i64 j ∧ Hid (Blk wr (w.heap.size + 1) 55 #[.int .i64 (y / 32), .int .u64 (HeadP.join ((xs.drop (k + 1)).take j)), .bool false]) ∧
          Hid (Blk wr w.heap.size 55 #[.int .i64 0, .int .u64 0, .bool false]) ∧ Hid (Below w.heap.size w wr)) (fun i _ => 1 - (intOf i).toNat)
      case atStart => exact ⟨0, by omega, rfl, HB0, HB1, HB2⟩
      case round =>
        obtain ⟨j, hj, rfl, h0, h1, h2⟩ := hrel
        clear HB0 HB1 HB2
        by_cases hlt : j < 1
        · have hbyte : wr.cell? ⟨b, o + (k + 1 + j), none⟩ = some (.int .u8 (xs.getD (k + 1 + j) 0)) := (h2.out.cell (p := ⟨b, o + (k + 1 + j), none⟩) hbw).trans (HC.out (k + 1 + j) (by omega))
          have hyy : 0 ≤ xs.getD (k + 1 + j) 0 ∧ xs.getD (k + 1 + j) 0 ≤ 255 := HX.out _ (by simp [List.getD, List.getElem?_eq_getElem (show k + 1 + j < xs.length by omega)])
          have htk : (xs.drop (k + 1)).take (j + 1) = (xs.drop (k + 1)).take j ++ [xs.getD (k + 1 + j) 0] := by
            rw [HeadP.take_snoc _ j (by simp; omega)]
            simp [List.getD, List.getElem?_drop]
          have hjb := HeadP.join_lt ((xs.drop (k + 1)).take j) (fun x hx' => HX.out x (List.mem_of_mem_drop (List.mem_of_mem_take hx'))) 7 (by simp; omega)
          simp only [show (256 : Int) ^ 7 = 72057594037927936 from rfl] at hjb
          have HT := Lib.hid htk
          clear htk
          generalize hJ : HeadP.join ((xs.drop (k + 1)).take j) = J at *
          have HJ := Lib.hid hJ
          clear hJ
          generalize xs.getD (k + 1 + j) 0 = z at *
          have hn1 : wr.cell? ⟨w.heap.size + 1, 1, none⟩ = some (.int .u64 J) := by simpa using h0.out.cell 1
          have hf1 := h0.out.frozen 1
          have hi1 : (k : Int) + 1 + (j : Int) < (xs.length : Int) := by omega
          go_wp2_with fail
          go_region
          all_goals go_wp2_with fail
          all_goals refine ⟨⟨j + 1, hlt, by go_num, ?_, ?_, ?_⟩, by simp [intOf]; omega⟩
          · have := (h0.out.drew).set_ 1 (.int .u64 (256 * J + z))
            rw [HT.out, HeadP.join_snoc, HJ.out, Int.mul_comm J 256]
            exact this
          · exact (h1.out.drew).far (by simp) _
          · exact (h2.out.drew).setCell (p := ⟨w.heap.size + 1, 1, none⟩) (by simp) _
        · obtain rfl : j = 1 := by omega
          have c0 : wr.cell? ⟨w.heap.size + 1, 0, none⟩ = some (.int .i64 (y / 32)) := by simpa using h0.out.cell 0
          have c1 : wr.cell? ⟨w.heap.size + 1, 1, none⟩ = some (.int .u64 (HeadP.join ((xs.drop (k + 1)).take 1))) := by simpa using h0.out.cell 1
          have c2 : wr.cell? ⟨w.heap.size + 1, 2, none⟩ = some (.bool false) := by simpa using h0.out.cell 2
          have d0 : wr.cell? ⟨w.heap.size, 0, none⟩ = some (.int .i64 0) := by simpa using h1.out.cell 0
          have d1 : wr.cell? ⟨w.heap.size, 1, none⟩ = some (.int .u64 0) := by simpa using h1.out.cell 1
          have d2 : wr.cell? ⟨w.heap.size, 2, none⟩ = some (.bool false) := by simpa using h1.out.cell 2
          have z0 := h1.out.frozen 0
          have z1 := h1.out.frozen 1
          have z2 := h1.out.frozen 2
          have hR := HR.out
          simp only [show (1 : Int).toNat = 1 from rfl] at hR
          generalize HeadP.join ((xs.drop (k + 1)).take 1) = J at *
          have HR2 := Lib.hid hR
          clear hR
          go_wp2_with fail
          exact bodyPost_ret (v := .tuple #[.agg #[.int .i64 (y / 32), .int .u64 J, .bool false], .int .i64 (k + 1 + 1), .int .i64 0]) (by simp [results, Try.results25, go_sem, d0, d1, d2, z0, z1, z2]) rfl
            ⟨by rw [HR2.out]; rfl, below_set3 h2.out (Nat.le_refl _) _ _ _⟩
  · have hsh := HeadP.readL_short y (xs.drop (k + 1)) k
    have hmo := fun h => HeadP.readL_more y (xs.drop (k + 1)) k h (by omega) (by omega)
    rw [← hrd, hf24, List.length_drop] at hsh hmo
    have HSH := Lib.hid hsh
    have HMO := Lib.hid hmo
    clear hrd hsh hmo hf24
    by_cases s3 : xs.length - (k + 1) < 2
    · have HR := Lib.hid (HSH.out s3)
      clear HSH HMO
      go_enter Try.func25, Try.ntmps25
      go_wp2_with fail
      exact bodyPost_ret (v := .tuple #[.agg #[.int .i64 0, .int .u64 0, .bool false], .int .i64 0, .int .i64 8]) (by simp [results, Try.results25, go_sem]) rfl
        ⟨by rw [HR.out]; rfl, (((Below.refl _ _).alloc (Nat.le_refl _) _).alloc (by simp) _).alloc (by simp; omega) _⟩
    · have HR := Lib.hid (HMO.out s3)
      clear HSH HMO
      have hlen : k + 1 + 2 ≤ xs.length := by omega
      have HB0 := Lib.hid (((Blk.new (w.alloc (.cells #[.int .i64 0, .int .u64 0, .bool false] 55)) 55 #[.int .i64 (y / 32), .int .u64 0, .bool false]).alloc (.cells #[.int .i64 1, .int .i64 2, .int .i64 4, .int .i64 8] 3)))
      have HB1 := Lib.hid (((Blk.new w 55 #[.int .i64 0, .int .u64 0, .bool false]).alloc (.cells #[.int .i64 (y / 32), .int .u64 0, .bool false] 55)).alloc (.cells #[.int .i64 1, .int .i64 2, .int .i64 4, .int .i64 8] 3))
      have HB2 := Lib.hid ((((Below.refl w.heap.size w).alloc (Nat.le_refl _) (.cells #[.int .i64 0, .int .u64 0, .bool false] 55)).alloc (by simp) (.cells #[.int .i64 (y / 32), .int .u64 0, .bool false] 55)).alloc (by simp; omega) (.cells #[.int .i64 1, .int .i64 2, .int .i64 4, .int .i64 8] 3))
      rw [World.size_alloc] at HB0
      go_enter Try.func25, Try.ntmps25
      go_wp2_with fail
      go_loopw [10] (fun i wr => ∃ j : Nat, j ≤ 2 ∧ i = .int .i64 j ∧ Hid (Blk wr (w.heap.size + 1) 55 #[.int .i64 (y / 32), .int .u64 (HeadP.join ((xs.drop (k + 1)).take j)), .bool false]) ∧
          Hid (Blk wr w.heap.size 55 #[.int .i64 0, .int .u64 0, .bool false]) ∧ Hid (Below w.heap.size w wr)) (fun i _ => 2 - (intOf i).toNat)
      case atStart => exact ⟨0, by omega, rfl, HB0, HB1, HB2⟩
      case round =>
        obtain ⟨j, hj, rfl, h0, h1, h2⟩ := hrel
        clear HB0 HB1 HB2
        by_cases hlt : j < 2
        · have hbyte : wr.cell? ⟨b, o + (k + 1 + j), none⟩ = some (.int .u8 (xs.getD (k + 1 + j) 0)) := (h2.out.cell (p := ⟨b, o + (k + 1 + j), none⟩) hbw).trans (HC.out (k + 1 + j) (by omega))
          have hyy : 0 ≤ xs.getD (k + 1 + j) 0 ∧ xs.getD (k + 1 + j) 0 ≤ 255 := HX.out _ (by simp [List.getD, List.getElem?_eq_getElem (show k + 1 + j < xs.length by omega)])
          have htk : (xs.drop (k + 1)).take (j + 1) = (xs.drop (k + 1)).take j ++ [xs.getD (k + 1 + j) 0] := by
            rw [HeadP.take_snoc _ j (by simp; omega)]
            simp [List.getD, List.getElem?_drop]
          have hjb := HeadP.join_lt ((xs.drop (k + 1)).take j) (fun x hx' => HX.out x (List.mem_of_mem_drop (List.mem_of_mem_take hx'))) 7 (by simp; omega)
          simp only [show (256 : Int) ^ 7 = 72057594037927936 from rfl] at hjb
          have HT := Lib.hid htk
          clear htk
          generalize hJ : HeadP.join ((xs.drop (k + 1)).take j) = J at *
          have HJ := Lib.hid hJ
          clear hJ
          generalize xs.getD (k + 1 + j) 0 = z at *
          have hn1 : wr.cell? ⟨w.heap.size + 1, 1, none⟩ = some (.int .u64 J) := by simpa using h0.out.cell 1
          have hf1 := h0.out.frozen 1
          have hi1 : (k : Int) + 1 + (j : Int) < (xs.length : Int) := by omega
          go_wp2_with fail
          go_region
          all_goals go_wp2_with fail
          all_goals refine ⟨⟨j + 1, hlt, by go_num, ?_, ?_, ?_⟩, by simp [intOf]; omega⟩
          · have := (h0.out.drew).set_ 1 (.int .u64 (256 * J + z))
            rw [HT.out, HeadP.join_snoc, HJ.out, Int.mul_comm J 256]
            exact this
          · exact (h1.out.drew).far (by simp) _
          · exact (h2.out.drew).setCell (p := ⟨w.heap.size + 1, 1, none⟩) (by simp) _
        · obtain rfl : j = 2 := by omega
          have c0 : wr.cell? ⟨w.heap.size + 1, 0, none⟩ = some (.int .i64 (y / 32)) := by simpa using h0.out.cell 0
          have c1 : wr.cell? ⟨w.heap.size + 1, 1, none⟩ = some (.int .u64 (HeadP.join ((xs.drop (k + 1)).take 2))) := by simpa using h0.out.cell 1
          have c2 : wr.cell? ⟨w.heap.size + 1, 2, none⟩ = some (.bool false) := by simpa using h0.out.cell 2
          have d0 : wr.cell? ⟨w.heap.size, 0, none⟩ = some (.int .i64 0) := by simpa using h1.out.cell 0
          have d1 : wr.cell? ⟨w.heap.size, 1, none⟩ = some (.int .u64 0) := by simpa using h1.out.cell 1
          have d2 : wr.cell? ⟨w.heap.size, 2, none⟩ = some (.bool false) := by simpa using h1.out.cell 2
          have z0 := h1.out.frozen 0
          have z1 := h1.out.frozen 1
          have z2 := h1.out.frozen 2
          have hR := HR.out
          simp only [show (2 : Int).toNat = 2 from rfl] at hR
          generalize HeadP.join ((xs.drop (k + 1)).take 2) = J at *
          have HR2 := Lib.hid hR
          clear hR
          go_wp2_with fail
          exact bodyPost_ret (v := .tuple #[.agg #[.int .i64 (y / 32), .int .u64 J, .bool false], .int .i64 (k + 1 + 2), .int .i64 0]) (by simp [results, Try.results25, go_sem, d0, d1, d2, z0, z1, z2]) rfl
            ⟨by rw [HR2.out]; rfl, below_set3 h2.out (Nat.le_refl _) _ _ _⟩
  · have hsh := HeadP.readL_short y (xs.drop (k + 1)) k
    have hmo := fun h => HeadP.readL_more y (xs.drop (k + 1)) k h (by omega) (by omega)
    rw [← hrd, hf24, List.length_drop] at hsh hmo
    have HSH := Lib.hid hsh
    have HMO := Lib.hid hmo
    clear hrd hsh hmo hf24
    by_cases s3 : xs.length - (k + 1) < 4
    · have HR := Lib.hid (HSH.out s3)
      clear HSH HMO
      go_enter Try.func25, Try.ntmps25
      go_wp2_with fail
      exact bodyPost_ret (v := .tuple #[.agg #[.int .i64 0, .int .u64 0, .bool false], .int .i64 0, .int .i64 8]) (by simp [results, Try.results25, go_sem]) rfl
        ⟨by rw [HR.out]; rfl, (((Below.refl _ _).alloc (Nat.le_refl _) _).alloc (by simp) _).alloc (by simp; omega) _⟩
    · have HR := Lib.hid (HMO.out s3)
      clear HSH HMO
      have hlen : k + 1 + 4 ≤ xs.length := by omega
      have HB0 := Lib.hid (((Blk.new (w.alloc (.cells #[.int .i64 0, .int .u64 0, .bool false] 55)) 55 #[.int .i64 (y / 32), .int .u64 0, .bool false]).alloc (.cells #[.int .i64 1, .int .i64 2, .int .i64 4, .int .i64 8] 3)))
      have HB1 := Lib.hid (((Blk.new w 55 #[.int .i64 0, .int .u64 0, .bool false]).alloc (.cells #[.int .i64 (y / 32), .int .u64 0, .bool false] 55)).alloc (.cells #[.int .i64 1, .int .i64 2, .int .i64 4, .int .i64 8] 3))
      have HB2 := Lib.hid ((((Below.refl w.heap.size w).alloc (Nat.le_refl _) (.cells #[.int .i64 0, .int .u64 0, .bool false] 55)).alloc (by simp) (.cells #[.int .i64 (y / 32), .int .u64 0, .bool false] 55)).alloc (by simp; omega) (.cells #[.int .i64 1, .int .i64 2, .int .i64 4, .int .i64 8] 3))
      rw [World.size_alloc] at HB0
      go_enter Try.func25, Try.ntmps25
      go_wp2_with fail
      go_loopw [10] (fun i wr => ∃ j : Nat, j ≤ 4 ∧ i = .int .i64 j ∧ Hid (Blk wr (w.heap.size + 1) 55 #[.int .i64 (y / 32), .int .u64 (HeadP.join ((xs.drop (k + 1)).take j)), .bool false]) ∧
          Hid (Blk wr w.heap.size 55 #[.int .i64 0, .int .u64 0, .bool false]) ∧ Hid (Below w.heap.size w wr)) (fun i _ => 4 - (intOf i).toNat)
      case atStart => exact ⟨0, by omega, rfl, HB0, HB1, HB2⟩
      case round =>
        obtain ⟨j, hj, rfl, h0, h1, h2⟩ := hrel
        clear HB0 HB1 HB2
        by_cases hlt : j < 4
        · have hbyte : wr.cell? ⟨b, o + (k + 1 + j), none⟩ = some (.int .u8 (xs.getD (k + 1 + j) 0)) := (h2.out.cell (p := ⟨b, o + (k + 1 + j), none⟩) hbw).trans (HC.out (k + 1 + j) (by omega))
          have hyy : 0 ≤ xs.getD (k + 1 + j) 0 ∧ xs.getD (k + 1 + j) 0 ≤ 255 := HX.out _ (by simp [List.getD, List.getElem?_eq_getElem (show k + 1 + j < xs.length by omega)])
          have htk : (xs.drop (k + 1)).take (j + 1) = (xs.drop (k + 1)).take j ++ [xs.getD (k + 1 + j) 0] := by
            rw [HeadP.take_snoc _ j (by simp; omega)]
            simp [List.getD, List.getElem?_drop]
          have hjb := HeadP.join_lt ((xs.drop (k + 1)).take j) (fun x hx' => HX.out x (List.mem_of_mem_drop (List.mem_of_mem_take hx'))) 7 (by simp; omega)
          simp only [show (256 : Int) ^ 7 = 72057594037927936 from rfl] at hjb
          have HT := Lib.hid htk
          clear htk
          generalize hJ : HeadP.join ((xs.drop (k + 1)).take j) = J at *
          have HJ := Lib.hid hJ
          clear hJ
          generalize xs.getD (k + 1 + j) 0 = z at *
          have hn1 : wr.cell? ⟨w.heap.size + 1, 1, none⟩ = some (.int .u64 J) := by simpa using h0.out.cell 1
          have hf1 := h0.out.frozen 1
          have hi1 : (k : Int) + 1 + (j : Int) < (xs.length : Int) := by omega
          go_wp2_with fail
          go_region
          all_goals go_wp2_with fail
          all_goals refine ⟨⟨j + 1, hlt, by go_num, ?_, ?_, ?_⟩, by simp [intOf]; omega⟩
          · have := (h0.out.drew).set_ 1 (.int .u64 (256 * J + z))
            rw [HT.out, HeadP.join_snoc, HJ.out, Int.mul_comm J 256]
            exact this
          · exact (h1.out.drew).far (by simp) _
          · exact (h2.out.drew).setCell (p := ⟨w.heap.size + 1, 1, none⟩) (by simp) _
        · obtain rfl : j = 4 := by omega
          have c0 : wr.cell? ⟨w.heap.size + 1, 0, none⟩ = some (.int .i64 (y / 32)) := by simpa using h0.out.cell 0
          have c1 : wr.cell? ⟨w.heap.size + 1, 1, none⟩ = some (.int .u64 (HeadP.join ((xs.drop (k + 1)).take 4))) := by simpa using h0.out.cell 1
          have c2 : wr.cell? ⟨w.heap.size + 1, 2, none⟩ = some (.bool false) := by simpa using h0.out.cell 2
          have d0 : wr.cell? ⟨w.heap.size, 0, none⟩ = some (.int .i64 0) := by simpa using h1.out.cell 0
          have d1 : wr.cell? ⟨w.heap.size, 1, none⟩ = some (.int .u64 0) := by simpa using h1.out.cell 1
          have d2 : wr.cell? ⟨w.heap.size, 2, none⟩ = some (.bool false) := by simpa using h1.out.cell 2
          have z0 := h1.out.frozen 0
          have z1 := h1.out.frozen 1
          have z2 := h1.out.frozen 2
          have hR := HR.out
          simp only [show (4 : Int).toNat = 4 from rfl] at hR
          generalize HeadP.join ((xs.drop (k + 1)).take 4) = J at *
          have HR2 := Lib.hid hR
          clear hR
          go_wp2_with fail
          exact bodyPost_ret (v := .tuple #[.agg #[.int .i64 (y / 32), .int .u64 J, .bool false], .int .i64 (k + 1 + 4), .int .i64 0]) (by simp [results, Try.results25, go_sem, d0, d1, d2, z0, z1, z2]) rfl
            ⟨by rw [HR2.out]; rfl, below_set3 h2.out (Nat.le_refl _) _ _ _⟩
  · have hsh := HeadP.readL_short y (xs.drop (k + 1)) k
    have hmo := fun h => HeadP.readL_more y (xs.drop (k + 1)) k h (by omega) (by omega)
    rw [← hrd, hf24, List.length_drop] at hsh hmo
    have HSH := Lib.hid hsh
    have HMO := Lib.hid hmo
    clear hrd hsh hmo hf24
    by_cases s3 : xs.length - (k + 1) < 8
    · have HR := Lib.hid (HSH.out s3)
      clear HSH HMO
      go_enter Try.func25, Try.ntmps25
      go_wp2_with fail
      exact bodyPost_ret (v := .tuple #[.agg #[.int .i64 0, .int .u64 0, .bool false], .int .i64 0, .int .i64 8]) (by simp [results, Try.results25, go_sem]) rfl
        ⟨by rw [HR.out]; rfl, (((Below.refl _ _).alloc (Nat.le_refl _) _).alloc (by simp) _).alloc (by simp; omega) _⟩
    · have HR := Lib.hid (HMO.out s3)
      clear HSH HMO
      have hlen : k + 1 + 8 ≤ xs.length := by omega
      have HB0 := Lib.hid (((Blk.new (w.alloc (.cells #[.int .i64 0, .int .u64 0, .bool false] 55)) 55 #[.int .i64 (y / 32), .int .u64 0, .bool false]).alloc (.cells #[.int .i64 1, .int .i64 2, .int .i64 4, .int .i64 8] 3)))
      have HB1 := Lib.hid (((Blk.new w 55 #[.int .i64 0, .int .u64 0, .bool false]).alloc (.cells #[.int .i64 (y / 32), .int .u64 0, .bool false] 55)).alloc (.cells #[.int .i64 1, .int .i64 2, .int .i64 4, .int .i64 8] 3))
      have HB2 := Lib.hid ((((Below.refl w.heap.size w).alloc (Nat.le_refl _) (.cells #[.int .i64 0, .int .u64 0, .bool false] 55)).alloc (by simp) (.cells #[.int .i64 (y / 32), .int .u64 0, .bool false] 55)).alloc (by simp; omega) (.cells #[.int .i64 1, .int .i64 2, .int .i64 4, .int .i64 8] 3))
      rw [World.size_alloc] at HB0
      go_enter Try.func25, Try.ntmps25
      go_wp2_with fail
      go_loopw [10] (fun i wr => ∃ j : Nat, j ≤ 8 ∧ i = .int .i64 j ∧ Hid (Blk wr (w.heap.size + 1) 55 #[.int .i64 (y / 32), .int .u64 (HeadP.join ((xs.drop (k + 1)).take j)), .bool false]) ∧
          Hid (Blk wr w.heap.size 55 #[.int .i64 0, .int .u64 0, .bool false]) ∧ Hid (Below w.heap.size w wr)) (fun i _ => 8 - (intOf i).toNat)
      case atStart => exact ⟨0, by omega, rfl, HB0, HB1, HB2⟩
      case round =>
        obtain ⟨j, hj, rfl, h0, h1, h2⟩ := hrel
        clear HB0 HB1 HB2
        by_cases hlt : j < 8
        · have hbyte : wr.cell? ⟨b, o + (k + 1 + j), none⟩ = some (.int .u8 (xs.getD (k + 1 + j) 0)) := (h2.out.cell (p := ⟨b, o + (k + 1 + j), none⟩) hbw).trans (HC.out (k + 1 + j) (by omega))
          have hyy : 0 ≤ xs.getD (k + 1 + j) 0 ∧ xs.getD (k + 1 + j) 0 ≤ 255 := HX.out _ (by simp [List.getD, List.getElem?_eq_getElem (show k + 1 + j < xs.length by omega)])
          have htk : (xs.drop (k + 1)).take (j + 1) = (xs.drop (k + 1)).take j ++ [xs.getD (k + 1 + j) 0] := by
            rw [HeadP.take_snoc _ j (by simp; omega)]
            simp [List.getD, List.getElem?_drop]
          have hjb := HeadP.join_lt ((xs.drop (k + 1)).take j) (fun x hx' => HX.out x (List.mem_of_mem_drop (List.mem_of_mem_take hx'))) 7 (by simp; omega)
          simp only [show (256 : Int) ^ 7 = 72057594037927936 from rfl] at hjb
          have HT := Lib.hid htk
          clear htk
          generalize hJ : HeadP.join ((xs.drop (k + 1)).take j) = J at *
          have HJ := Lib.hid hJ
          clear hJ
          generalize xs.getD (k + 1 + j) 0 = z at *
          have hn1 : wr.cell? ⟨w.heap.size + 1, 1, none⟩ = some (.int .u64 J) := by simpa using h0.out.cell 1
          have hf1 := h0.out.frozen 1
          have hi1 : (k : Int) + 1 + (j : Int) < (xs.length : Int) := by omega
          go_wp2_with fail
          go_region
          all_goals go_wp2_with fail
          all_goals refine ⟨⟨j + 1, hlt, by go_num, ?_, ?_, ?_⟩, by simp [intOf]; omega⟩
          · have := (h0.out.drew).set_ 1 (.int .u64 (256 * J + z))
            rw [HT.out, HeadP.join_snoc, HJ.out, Int.mul_comm J 256]
            exact this
          · exact (h1.out.drew).far (by simp) _
          · exact (h2.out.drew).setCell (p := ⟨w.heap.size + 1, 1, none⟩) (by simp) _
        · obtain rfl : j = 8 := by omega
          have c0 : wr.cell? ⟨w.heap.size + 1, 0, none⟩ = some (.int .i64 (y / 32)) := by simpa using h0.out.cell 0
          have c1 : wr.cell? ⟨w.heap.size + 1, 1, none⟩ = some (.int .u64 (HeadP.join ((xs.drop (k + 1)).take 8))) := by simpa using h0.out.cell 1
          have c2 : wr.cell? ⟨w.heap.size + 1, 2, none⟩ = some (.bool false) := by simpa using h0.out.cell 2
          have d0 : wr.cell? ⟨w.heap.size, 0, none⟩ = some (.int .i64 0) := by simpa using h1.out.cell 0
          have d1 : wr.cell? ⟨w.heap.size, 1, none⟩ = some (.int .u64 0) := by simpa using h1.out.cell 1
          have d2 : wr.cell? ⟨w.heap.size, 2, none⟩ = some (.bool false) := by simpa using h1.out.cell 2
          have z0 := h1.out.frozen 0
          have z1 := h1.out.frozen 1
          have z2 := h1.out.frozen 2
          have hR := HR.out
          simp only [show (8 : Int).toNat = 8 from rfl] at hR
          generalize HeadP.join ((xs.drop (k + 1)).take 8) = J at *
          have HR2 := Lib.hid hR
          clear hR
          go_wp2_with fail
          exact bodyPost_ret (v := .tuple #[.agg #[.int .i64 (y / 32), .int .u64 J, .bool false], .int .i64 (k + 1 + 8), .int .i64 0]) (by simp [results, Try.results25, go_sem, d0, d1, d2, z0, z1, z2]) rfl
            ⟨by rw [HR2.out]; rfl, below_set3 h2.out (Nat.le_refl _) _ _ _⟩
end Go.Proofs.Ytgjihjijlhdjdaa.RefHead
