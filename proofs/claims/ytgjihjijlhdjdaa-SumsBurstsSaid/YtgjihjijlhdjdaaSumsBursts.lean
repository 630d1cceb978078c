/- The walk of the statement SumsBursts. -/
import Derived.Test.YtgjihjijlhdjdaaSumsBurstP
import Derived.BigRegion
namespace Go.Proofs.Ytgjihjijlhdjdaa.SumsBursts
open Go.RowKit Wd SumW Ctr SumsAlive SumsTogether
attribute [local go_sem ↓] Go.wp_at_zero Go.wp_at_succ

set_option maxRecDepth 100000 in
set_option maxHeartbeats 1600000 in
theorem walk_out (A : Option Addr) (n c : Nat) (a v : Int) (w : World) (hn : n ≤ maxLen) (h : 3000 < n ∨ v = 0 ∨ a < 0 ∨ 8 * (n : Int) - 32 < a) :
    Calls Try.prog 4 #[.slice A n c, .int .i64 a, .int .u32 v] w fun e w' => e = .returned (.bool true) ∧ Below w.heap.size w w' := by
  by_cases h1 : 3000 < n
  · have g1 : decide ((3000 : Int) < (n : Int)) = true := decide_eq_true (by omega)
    clear h
    go_enter Try.func4, Try.ntmps4
    go_wp2_with fail
    refine (alive_any _).mono ?_
    rintro e w3 ⟨rfl, hb3⟩
    have HB3 := Lib.hid hb3
    clear hb3
    go_wp2_with fail
    go_ret
    exact ⟨rfl, HB3.out⟩
  have g1 : decide ((3000 : Int) < (n : Int)) = false := decide_eq_false (by omega)
  by_cases h2 : v = 0
  · subst h2
    clear h
    go_enter Try.func4, Try.ntmps4
    go_wp2_with fail
    refine (alive_any _).mono ?_
    rintro e w3 ⟨rfl, hb3⟩
    have HB3 := Lib.hid hb3
    clear hb3
    go_wp2_with fail
    go_ret
    exact ⟨rfl, HB3.out⟩
  have g2 : (v == 0) = false := by simpa using h2
  by_cases h3 : a < 0
  · have g3 : decide (a < 0) = true := decide_eq_true h3
    clear h
    go_enter Try.func4, Try.ntmps4
    go_wp2_with fail
    refine (alive_any _).mono ?_
    rintro e w3 ⟨rfl, hb3⟩
    have HB3 := Lib.hid hb3
    clear hb3
    go_wp2_with fail
    go_ret
    exact ⟨rfl, HB3.out⟩
  · have g3 : decide (a < 0) = false := decide_eq_false (by omega)
    have h4 : 8 * (n : Int) - 32 < a := by omega
    have g4 : decide (8 * (n : Int) - 32 < a) = true := decide_eq_true h4
    clear h
    go_enter Try.func4, Try.ntmps4
    go_wp2_with fail
    refine (alive_any _).mono ?_
    rintro e w3 ⟨rfl, hb3⟩
    have HB3 := Lib.hid hb3
    clear hb3
    go_wp2_with fail
    go_ret
    exact ⟨rfl, HB3.out⟩


set_option maxRecDepth 100000 in
set_option maxHeartbeats 4000000 in
theorem walk_in (A : Option Addr) (c : Nat) (xs : List Int) (a v : Nat) (w : World) (h1 : xs.length ≤ 3000) (h2 : v ≠ 0) (hv : v < 4294967296) (ha : a + 32 ≤ 8 * xs.length)
    (s : Lst w w.heap.size A (u8s xs)) (b : St.bts xs) :
    Calls Try.prog 4 #[.slice A xs.length c, .int .i64 a, .int .u32 v] w fun e w' => e = .returned (.bool true) ∧ Below w.heap.size w w' := by
  have g1 : decide ((3000 : Int) < (xs.length : Int)) = false := decide_eq_false (by omega)
  have g2 : ((v : Int) == 0) = false := by simp; exact h2
  have g3 : decide ((a : Int) < 0) = false := decide_eq_false (by omega)
  have g4 : decide (8 * (xs.length : Int) - 32 < (a : Int)) = false := decide_eq_false (by omega)
  obtain ⟨i0, hi0, hz0, hz1, hz2⟩ := info_parts info_u8
  have HM := Lib.hid (fun (k : Nat) (hk : k ≤ 4000) => (show k ≤ maxLen by unfold maxLen; omega))
  have HS := Lib.hid s
  have HX := Lib.hid b
  have HT := Lib.hid (turned_bts xs a v b)
  have HTL := Lib.hid (turned_length xs a v)
  have HLD := Lib.hid (long_differs xs a v b h2 hv ha)
  have HSD := Lib.hid (fun hv => short_differs xs a v b h2 hv ha)
  clear s b
  go_enter Try.func4, Try.ntmps4
  go_wp2_with (first
    | (at_builtin
       refine wpList_append_lst _ rfl (.tmp 29) (.tmp 30) _ (by rfl) w.heap.size 5 i0 _ 1 Try.underlying22 hi0 hz0 hz1 hz2 rfl (.slice (some ⟨w.heap.size, 0, none⟩) 0 0) 0 [] (by rfl)
         (World.ownsRow_lit w #[] 0 (Nat.le_refl _) (HM.out 0 (by omega)) rfl) w.heap.size A xs.length c (u8s xs) (by rfl) (by simp) (HS.out.below (((Below.refl w.heap.size w).alloc (by omega) _))) (u8_one xs) (HM.out _ (by omega)) (by omega) (by simp) ?_
       intro v2 w2 hown2 hg2 hat2
       have HB2 := Lib.hid (((Below.refl w.heap.size w).alloc (Nat.le_refl _) (.cells #[] 5)).grown hg2 (by simp) (fun k hk => by simp [Value.ownBlock] at hk; omega))
       have HO2 := Lib.hid (show w2.ownsRow w.heap.size 5 1 v2 xs.length (u8s xs) by simpa using hown2)
       clear hown2 hg2 hat2))
  obtain ⟨g, c2, rfl, hg0, _⟩ := own_some HO2.out (by omega)
  go_loopw [8] (fun i wr => ∃ k : Nat, k ≤ 32 ∧ i = .int .i64 k ∧ Hid (wr.ownsRow w.heap.size 5 1 (.slice (some ⟨g, 0, none⟩) xs.length c2) xs.length (u8s (turned xs a v k))) ∧ Hid (Below w.heap.size w wr)) (fun i _ => 32 - (intOf i).toNat)
  case atStart => exact ⟨0, by omega, rfl, HO2, HB2⟩
  case round =>
    rename_i wr
    obtain ⟨k, hk, rfl, ho, hB⟩ := hrel
    by_cases hlt : k < 32
    · have hbit : bits .and .u32 ((v : Int) / 2 ^ k) 1 = ((v / 2 ^ k % 2 : Nat) : Int) := by
        have := Bt.u32_bit (v / 2 ^ k) (Nat.lt_of_le_of_lt (Nat.div_le_self _ _) hv)
        rwa [Int.natCast_ediv, Int.natCast_pow] at this
      by_cases hb : v / 2 ^ k % 2 = 1
      · have gb : (bits .and .u32 ((v : Int) / 2 ^ k) 1 == 1) = true := by rw [hbit, hb]; rfl
        have ht : turned xs a v (k + 1) = (turned xs a v k).set ((a + k) / 8) ((((turned xs a v k).getD ((a + k) / 8) 0).toNat ^^^ 2 ^ ((a + k) % 8) : Nat) : Int) := by
          rw [turned, if_pos hb]
        obtain ⟨e1, e2, e3⟩ := own_at ho.out ((a + k) / 8) (by omega)
        have e0 := getD_bound _ (HT.out k) ((a + k) / 8)
        generalize (turned xs a v k).getD ((a + k) / 8) 0 = y at *
        obtain ⟨z, rfl⟩ := Int.eq_ofNat_of_zero_le e0.1
        rw [Int.toNat_natCast] at ht
        have hx : bits .xor .u8 (z : Int) (2 ^ ((a + k) % 8) % 256) = ((z ^^^ 2 ^ ((a + k) % 8) : Nat) : Int) := by
          have hp := pow_lt ((a + k) % 8) (by omega)
          have := u8_xor_nat z (2 ^ ((a + k) % 8)) (by omega) hp
          rw [Int.natCast_pow] at this
          rw [Int.emod_eq_of_lt (Int.le_of_lt (Int.pow_pos (by omega))) (by exact_mod_cast hp)]
          exact this
        have HO' := Lib.hid (show (wr.setCell ⟨g, (a + k) / 8, none⟩ (.int .u8 (bits .xor .u8 (z : Int) (2 ^ ((a + k) % 8) % 256)))).ownsRow w.heap.size 5 1 (.slice (some ⟨g, 0, none⟩) xs.length c2) xs.length (u8s (turned xs a v (k + 1))) by
          rw [ht, hx]; exact e3 _)
        have HB' := Lib.hid ((hB.out).setCell (p := ⟨g, (a + k) / 8, none⟩) hg0 (.int .u8 (bits .xor .u8 (z : Int) (2 ^ ((a + k) % 8) % 256))))
        clear hbit ht hx e3
        go_wp2_with fail
        go_region
        go_wp2_with fail
        exact ⟨⟨k + 1, hlt, by go_num, Lib.hid HO'.out.drew, Lib.hid HB'.out.drew⟩, by simp [intOf]; omega⟩
      · have gb : (bits .and .u32 ((v : Int) / 2 ^ k) 1 == 1) = false := by rw [hbit, show v / 2 ^ k % 2 = 0 by omega]; rfl
        have ht : turned xs a v (k + 1) = turned xs a v k := by rw [turned, if_neg hb]
        have HO' := Lib.hid (show wr.ownsRow w.heap.size 5 1 (.slice (some ⟨g, 0, none⟩) xs.length c2) xs.length (u8s (turned xs a v (k + 1))) by rw [ht]; exact ho.out)
        clear ht hbit
        go_wp2_with fail
        exact ⟨⟨k + 1, hlt, by go_num, HO', hB⟩, by simp [intOf]; omega⟩
    · obtain rfl : k = 32 := by omega
      have hd := HT.out 32
      have hdl := HTL.out 32
      have hL := HLD.out
      have hS := HSD.out
      have hLd := Lst.of_own ho.out
      generalize turned xs a v 32 = ds at *
      have HLd := Lib.hid hLd
      have HDL := Lib.hid hdl
      have m1 : xs.length ≤ maxLen := HM.out _ (by omega)
      have C1 := Lib.hid (fun (W : World) (hb : Below w.heap.size w W) => SumW.long_any A w.heap.size c xs W (HS.out.below hb) HX.out m1)
      have D1 := Lib.hid (fun (W : World) (hb : Below w.heap.size w W) => SumW.short_any A w.heap.size c xs W (HS.out.below hb) HX.out m1)
      have C0 : Hid (∀ W, Below wr.heap.size wr W → Calls Try.prog 15 #[.slice (some ⟨g, 0, none⟩) xs.length c2] W fun e w' => e = .returned (.int .u32 (SumP.long (nb ds) : Nat)) ∧ W = w') := by
        intro W hb
        have := SumW.long_any (some ⟨g, 0, none⟩) wr.heap.size c2 ds W (HLd.out.below hb) hd (by rw [HDL.out]; exact m1)
        rwa [HDL.out] at this
      have D0 : Hid (∀ W, Below wr.heap.size wr W → Calls Try.prog 13 #[.slice (some ⟨g, 0, none⟩) xs.length c2] W fun e w' => e = .returned (.int .u16 (SumP.short (nb ds) : Nat)) ∧ W = w') := by
        intro W hb
        have := SumW.short_any (some ⟨g, 0, none⟩) wr.heap.size c2 ds W (HLd.out.below hb) hd (by rw [HDL.out]; exact m1)
        rwa [HDL.out] at this
      generalize SumP.long (nb xs) = l1 at *
      generalize SumP.long (nb ds) = l2 at *
      generalize SumP.short (nb xs) = s1 at *
      generalize SumP.short (nb ds) = s2 at *
      have gl : ((l1 : Int) != (l2 : Int)) = true := by simp; omega
      clear hL hLd hd hdl m1
      go_wp2_with fail
      refine (alive_any _).mono ?_
      rintro e w3 ⟨rfl, hb3⟩
      have HBr := Lib.hid hb3
      have HBw := Lib.hid (below_next hB.out hB.out.size hb3)
      clear hb3
      by_cases hv2 : v < 65536
      · have gv : decide ((65536 : Int) ≤ (v : Int)) = false := decide_eq_false (by omega)
        have gs : ((s1 : Int) != (s2 : Int)) = true := (by have := hS hv2; simp; omega)
        go_wp2_with fail
        refine (C1.out _ HBw.out).mono ?_
        rintro e w4 ⟨rfl, rfl⟩
        go_wp2_with fail
        refine (C0.out _ HBr.out).mono ?_
        rintro e w4 ⟨rfl, rfl⟩
        go_wp2_with fail
        refine (D1.out _ HBw.out).mono ?_
        rintro e w4 ⟨rfl, rfl⟩
        go_wp2_with fail
        refine (D0.out _ HBr.out).mono ?_
        rintro e w4 ⟨rfl, rfl⟩
        go_wp2_with fail
        go_ret
        exact ⟨rfl, HBw.out⟩
      · have gv : decide ((65536 : Int) ≤ (v : Int)) = true := decide_eq_true (by omega)
        go_wp2_with fail
        refine (C1.out _ HBw.out).mono ?_
        rintro e w4 ⟨rfl, rfl⟩
        go_wp2_with fail
        refine (C0.out _ HBr.out).mono ?_
        rintro e w4 ⟨rfl, rfl⟩
        go_wp2_with fail
        go_ret
        exact ⟨rfl, HBw.out⟩

theorem walk (A : Option Addr) (c : Nat) (xs : List Int) (a v : Int) (w : World) (_l : xs.length ≤ c) (m : c ≤ maxLen) (s : Lst w w.heap.size A (u8s xs)) (b : St.bts xs)
    (_ha : -9223372036854775808 ≤ a ∧ a ≤ 9223372036854775807) (hv : 0 ≤ v ∧ v ≤ 4294967295) :
    Calls Try.prog 4 #[.slice A xs.length c, .int .i64 a, .int .u32 v] w fun e w' => e = .returned (.bool true) ∧ Below w.heap.size w w' := by
  by_cases h : 3000 < xs.length ∨ v = 0 ∨ a < 0 ∨ 8 * (xs.length : Int) - 32 < a
  · exact walk_out A _ c a v w (by omega) h
  · obtain ⟨a', rfl⟩ := Int.eq_ofNat_of_zero_le (show 0 ≤ a by omega)
    obtain ⟨v', rfl⟩ := Int.eq_ofNat_of_zero_le (show 0 ≤ v by omega)
    exact walk_in A c xs a' v' w (by omega) (by omega) (by omega) (by omega) s b
end Go.Proofs.Ytgjihjijlhdjdaa.SumsBursts
