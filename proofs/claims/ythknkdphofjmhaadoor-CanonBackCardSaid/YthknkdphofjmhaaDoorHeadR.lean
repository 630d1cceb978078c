/- The contracts of head.Read and what it calls. -/
import Derived.Test.YthknkdphofjmhaaDoorZg7
namespace Go.Proofs.YthknkdphofjmhaaDoor.HeadR
open Go.RowKit Wd

theorem joined_any (A : Option Addr) (B c n : Nat) (xs : List Int) (w : World) (hn : xs.length = n) (hs : Lst w B A (u8s xs)) (h8 : xs.length ≤ 8) (hx : ∀ x ∈ xs, 0 ≤ x ∧ x ≤ 255) :
    Calls Tryd.prog 120 #[.slice A n c] w fun e w' => e = .returned (.int .u64 (HeadP.join xs)) ∧ w = w' := by
  subst hn
  go_enter Tryd.func120, Tryd.ntmps120
  go_wp2_with fail
  go_loop [3, 7] (fun n i => ∃ k : Nat, k ≤ xs.length ∧ i = .int .i64 k ∧ n = .int .u64 (HeadP.join (xs.take k))) (fun _ i => xs.length - (intOf i).toNat)
  case atStart => exact ⟨0, Nat.zero_le _, rfl, rfl⟩
  case round =>
    obtain ⟨k, hk, rfl, rfl⟩ := hrel
    by_cases hlt : k < xs.length
    · obtain ⟨b, o, rfl, hb, hc⟩ := hs.bytes hlt
      have hck := hc k hlt
      have hxk : 0 ≤ xs.getD k 0 ∧ xs.getD k 0 ≤ 255 := hx _ (by simp [List.getD, List.getElem?_eq_getElem hlt])
      have HT := Lib.hid (HeadP.take_snoc xs k hlt)
      have hj := HeadP.join_lt (xs.take k) (fun x h => hx x (List.mem_of_mem_take h)) 7 (by simp; omega)
      simp only [show (256 : Int) ^ 7 = 72057594037927936 from rfl] at hj
      clear hc hs hx
      generalize hJ : HeadP.join (xs.take k) = J at *
      have HJ := Lib.hid hJ
      clear hJ
      generalize hy : xs.getD k 0 = y at *
      have HY := Lib.hid hy
      clear hy
      go_wp2_with fail
      rw [Bt.or_byte J y hj.1 hj.2 hxk.1 hxk.2]
      exact ⟨⟨k + 1, hlt, by go_num, by rw [HT.out, HeadP.join_snoc, HJ.out]⟩, by simp [intOf]; omega⟩
    · obtain rfl : k = xs.length := by omega
      go_wp2_with fail
      go_ret
      exact ⟨by simp, rfl⟩

/-- A head, a place and an error, as three results. -/
def res (t : Int × Int × Bool × Int × Int) : Ending := .returned (.tuple #[.agg #[.int .i64 t.1, .int .u64 t.2.1, .bool t.2.2.1], .int .i64 t.2.2.2.1, .int .i64 t.2.2.2.2])

theorem readOpen_any (m l i : Int) (w : World) (h0 : 0 ≤ i) (h1 : i < 9223372036854775807) :
    Calls Tryd.prog 119 #[.int .i64 m, .int .i64 l, .int .i64 i] w fun e w' => e = res (HeadP.opened m l i) ∧ Below w.heap.size w w' := by
  by_cases hl : l = 31
  · subst hl
    cases hm : HeadP.mayOpen m
    · go_enter Tryd.func119, Tryd.ntmps119
      go_wp2_with (go_at_call 105; refine (HeadA.mayOpen_any _ _).mono ?_; rintro e w' ⟨rfl, rfl⟩)
      exact bodyPost_ret (v := .tuple #[.agg #[.int .i64 0, .int .u64 0, .bool false], .int .i64 0, .int .i64 3]) (by simp [results, Tryd.results119, go_sem]) rfl ⟨by simp [res, HeadP.opened, hm], (Below.refl _ _).alloc (Nat.le_refl _) _⟩
    · go_enter Tryd.func119, Tryd.ntmps119
      go_wp2_with (go_at_call 105; refine (HeadA.mayOpen_any _ _).mono ?_; rintro e w' ⟨rfl, rfl⟩)
      exact bodyPost_ret (v := .tuple #[.agg #[.int .i64 m, .int .u64 0, .bool true], .int .i64 (i + 1), .int .i64 0]) (by simp [results, Tryd.results119, go_sem]) rfl ⟨by simp [res, HeadP.opened, hm], (Below.refl _ _).alloc (Nat.le_refl _) _⟩
  · have hl' : (l != 31) = true := by simpa using hl
    go_enter Tryd.func119, Tryd.ntmps119
    go_wp2_with fail
    exact bodyPost_ret (v := .tuple #[.agg #[.int .i64 0, .int .u64 0, .bool false], .int .i64 0, .int .i64 3]) (by simp [results, Tryd.results119, go_sem]) rfl ⟨by simp [res, HeadP.opened, hl], (Below.refl _ _).alloc (Nat.le_refl _) _⟩

set_option maxHeartbeats 1000000 in
theorem read_any (A : Option Addr) (B c : Nat) (xs : List Int) (i : Int) (w : World) (hs : Lst w B A (u8s xs)) (hB : B ≤ w.heap.size) (hx : ∀ x ∈ xs, 0 ≤ x ∧ x ≤ 255) (hc : xs.length ≤ c) (hm : c ≤ maxLen) :
    Calls Tryd.prog 112 #[.slice A xs.length c, .int .i64 i] w fun e w' => e = res (HeadP.read xs i) ∧ Below w.heap.size w w' := by
  unfold maxLen at hm
  by_cases a0 : i < 0
  · have HR := Lib.hid (HeadP.read_out xs i (.inl a0))
    go_enter Tryd.func112, Tryd.ntmps112
    go_wp2_with fail
    exact bodyPost_ret (v := .tuple #[.agg #[.int .i64 0, .int .u64 0, .bool false], .int .i64 0, .int .i64 1]) (by simp [results, Tryd.results112, go_sem]) rfl ⟨by rw [HR.out]; rfl, (Below.refl _ _).alloc (Nat.le_refl _) _⟩
  by_cases a1 : (xs.length : Int) < i
  · have HR := Lib.hid (HeadP.read_out xs i (.inr a1))
    go_enter Tryd.func112, Tryd.ntmps112
    go_wp2_with fail
    exact bodyPost_ret (v := .tuple #[.agg #[.int .i64 0, .int .u64 0, .bool false], .int .i64 0, .int .i64 1]) (by simp [results, Tryd.results112, go_sem]) rfl ⟨by rw [HR.out]; rfl, (Below.refl _ _).alloc (Nat.le_refl _) _⟩
  obtain ⟨k, rfl⟩ := Int.eq_ofNat_of_zero_le (show 0 ≤ i by omega)
  by_cases a2 : k = xs.length
  · subst a2
    have HR := Lib.hid (HeadP.read_end xs)
    go_enter Tryd.func112, Tryd.ntmps112
    go_wp2_with fail
    all_goals exact bodyPost_ret (v := .tuple #[.agg #[.int .i64 0, .int .u64 0, .bool false], .int .i64 0, .int .i64 8]) (by simp [results, Tryd.results112, go_sem]) rfl ⟨by rw [HR.out]; rfl, (Below.refl _ _).alloc (Nat.le_refl _) _⟩
  have hk : k < xs.length := by omega
  obtain ⟨b, o, rfl, hb, hcell⟩ := hs.bytes hk
  have hy := hcell k hk
  have hbw : b < w.heap.size := by omega
  have HR := Lib.hid (HeadP.read_at xs k hk)
  have hyb : 0 ≤ xs.getD k 0 ∧ xs.getD k 0 ≤ 255 := hx _ (by simp [List.getD, List.getElem?_eq_getElem hk])
  generalize hY : xs.getD k 0 = y at *
  have hck : ¬ c = k := by omega
  have hp : (0 : Int) < ((xs.length - k : Nat) : Int) := by omega
  have hne : (((xs.length - k : Nat) : Int) == 0) = false := by simp; omega
  have HC := Lib.hid hcell
  have HS := Lib.hid hs
  have HX := Lib.hid hx
  clear hcell hY hs hx a2
  go_enter Tryd.func112, Tryd.ntmps112
  go_wp2_with fail
  go_quiet (fail)
  have hl := Int.emod_nonneg y (show (32 : Int) ≠ 0 by omega)
  have hl2 := Int.emod_lt_of_pos y (show (0 : Int) < 32 by omega)
  have hf := HeadP.following_le (y % 32)
  have hr0 := HeadP.readL_short y (xs.drop (k + 1)) k
  have hr1 := HeadP.readL_open y (xs.drop (k + 1)) k
  have hr2 := HeadP.readL_low y (xs.drop (k + 1)) k
  have hr3 := HeadP.readL_more y (xs.drop (k + 1)) k
  rw [← HR.out] at hr0 hr1 hr2 hr3
  rw [List.length_drop] at hr0 hr1 hr3
  generalize hF : HeadP.following (y % 32) = F at *
  have H0 := Lib.hid hr0
  have H1 := Lib.hid hr1
  have H2 := Lib.hid hr2
  have H3 := Lib.hid hr3
  have HF := Lib.hid hF
  clear hr0 hr1 hr2 hr3 hF
  go_wp2_with fail
  refine (HeadA.following_any _ _ hl (by omega)).mono ?_
  rintro e w3 ⟨rfl, rfl⟩
  rw [HF.out]
  obtain ⟨more, rfl⟩ := Int.eq_ofNat_of_zero_le hf.1
  simp only [Int.toNat_natCast] at H0 H1 H3
  by_cases s0 : xs.length - (k + 1) < more
  · have hfin := Lib.hid (H0.out s0)
    go_wp2_with fail
    exact bodyPost_ret (v := .tuple #[.agg #[.int .i64 0, .int .u64 0, .bool false], .int .i64 0, .int .i64 8]) (by simp [results, Tryd.results112, go_sem]) rfl ⟨by rw [hfin.out]; rfl, below_set3 (below_drewN ((Below.refl _ _).alloc (Nat.le_refl _) _) _) (Nat.le_refl _) _ _ _⟩
  by_cases s1 : 27 < y % 32
  · have hfin := Lib.hid (H1.out s0 s1)
    go_wp2_with fail
    refine (readOpen_any _ _ _ _ (by omega) (by omega)).mono ?_
    rintro e w4 ⟨rfl, hb4⟩
    have c0 := (hb4.cell (p := ⟨w.heap.size, 0, none⟩) (by simp))
    have c1 := (hb4.cell (p := ⟨w.heap.size, 1, none⟩) (by simp))
    have c2 := (hb4.cell (p := ⟨w.heap.size, 2, none⟩) (by simp))
    have z0 := (hb4.frozen (p := ⟨w.heap.size, 0, none⟩) (by simp))
    have z1 := (hb4.frozen (p := ⟨w.heap.size, 1, none⟩) (by simp))
    have z2 := (hb4.frozen (p := ⟨w.heap.size, 2, none⟩) (by simp))
    simp at c0 c1 c2 z0 z1 z2
    generalize HeadP.opened (y / 32) (y % 32) ↑k = t at *
    obtain ⟨t0, t1, t2, t3, t4⟩ := t
    unfold res
    have hs4 := hb4.size
    have HB := Lib.hid (below_drewN ((Below.refl w.heap.size w).alloc (Nat.le_refl _) (.cells #[.int .i64 0, .int .u64 0, .bool false] 133)) nq |>.trans (hb4.mono (by simp)))
    simp at hs4
    clear hb4
    go_wp2_with fail
    exact bodyPost_ret (v := .tuple #[.agg #[.int .i64 t0, .int .u64 t1, .bool t2], .int .i64 t3, .int .i64 t4]) (by simp [results, Tryd.results112, go_sem, c0, c1, c2, z0, z1, z2]) rfl ⟨by rw [hfin.out]; rfl, below_set3 HB.out (Nat.le_refl _) _ _ _⟩
  by_cases s2 : (more : Int) = 0
  · have hfin := Lib.hid (H2.out (by omega) s2)
    have s2' : more = 0 := by omega
    subst s2'
    go_wp2_with fail
    exact bodyPost_ret (v := .tuple #[.agg #[.int .i64 (y / 32), .int .u64 (y % 32), .bool false], .int .i64 (k + 1), .int .i64 0]) (by simp [results, Tryd.results112, go_sem]) rfl
      ⟨by rw [hfin.out]; rfl, below_set3 (below_drewN ((Below.refl _ _).alloc (Nat.le_refl _) _) _) (Nat.le_refl _) _ _ _⟩
  · have hfin := Lib.hid (H3.out s0 (by omega) s2)
    have hck1 : ¬ c - k = 1 := by omega
    have hlen : ((xs.drop (k + 1)).take more).length = more := by simp; omega
    have HL := Lib.hid hlen
    have hp2 := Lst.piece (o := o) (w' := (w.alloc (.cells #[.int .i64 0, .int .u64 0, .bool false] 133)).drewN nq) HC.out hbw (fun p hp => by simp; exact World.cell?_alloc_lt w _ p (by omega)) (k + 1) more (by omega)
    rw [← Nat.add_assoc] at hp2
    have HP := Lib.hid hp2
    clear hlen hp2
    go_wp2_with fail
    refine (joined_any _ w.heap.size _ more ((xs.drop (k + 1)).take more) _ HL.out HP.out (by rw [HL.out]; omega) (fun x h => HX.out x (List.mem_of_mem_drop (List.mem_of_mem_take h)))).mono ?_
    rintro e w4 ⟨rfl, rfl⟩
    generalize HeadP.join (List.take more (List.drop (k + 1) xs)) = J at *
    clear H0 H1 H2 H3
    go_wp2_with fail
    exact bodyPost_ret (v := .tuple #[.agg #[.int .i64 (y / 32), .int .u64 J, .bool false], .int .i64 (k + 1 + more), .int .i64 0]) (by simp [results, Tryd.results112, go_sem]) rfl
      ⟨by rw [hfin.out]; rfl, below_set3 (below_drewN ((Below.refl _ _).alloc (Nat.le_refl _) _) _) (Nat.le_refl _) _ _ _⟩
end Go.Proofs.YthknkdphofjmhaaDoor.HeadR
