/- The document's own answers of layer 2: Right, power, tail, Write. -/
import Derived.Test.YtoieadbifhealaaDoorHeadBackP
import Derived.Test.YtoieadbifhealaaDoorApp
import Derived.Test.YtoieadbifhealaaDoorBits
import Derived.WalkKit
import Derived.WalkSpells
import Derived.Lib.Hide
import Derived.Outline
import Derived.Deep.QuietTactic
import Derived.BigQuiet
import Derived.Test.YtoieadbifhealaaDoorProg
namespace Go.Proofs.YtoieadbifhealaaDoor.RefHead
open Go.RowKit Wd


theorem power_any (k : Nat) (w : World) (hk : k ≤ 63) :
    Calls Tryd.prog 76 #[.int .i64 k] w fun e w' => e = .returned (.int .u64 (2 ^ k)) ∧ w = w' := by
  go_enter Tryd.func76, Tryd.ntmps76
  go_wp2_with fail
  go_loop [3, 4] (fun n i => ∃ j : Nat, j ≤ k ∧ i = .int .i64 j ∧ n = .int .u64 (2 ^ j)) (fun _ i => k - (intOf i).toNat)
  case atStart => exact ⟨0, Nat.zero_le _, rfl, rfl⟩
  case round =>
    obtain ⟨j, hj, rfl, rfl⟩ := hrel
    by_cases hlt : j < k
    · have hp : (2 : Int) ^ j ≤ 4611686018427387904 := by
        have : ((2 ^ j : Nat) : Int) ≤ ((2 ^ 62 : Nat) : Int) := by exact_mod_cast Nat.pow_le_pow_right (by omega) (by omega)
        simpa using this
      have hp0 : (0 : Int) ≤ 2 ^ j := Int.pow_nonneg (by omega)
      have he : (2 : Int) ^ (j + 1) = 2 * 2 ^ j := by rw [Int.pow_succ, Int.mul_comm]
      have HE := Lib.hid he
      clear he
      generalize hP : (2 : Int) ^ j = p at *
      have HP := Lib.hid hP
      clear hP
      go_wp2_with fail
      exact ⟨⟨j + 1, hlt, by go_num, by rw [HE.out]⟩, by simp [intOf]; omega⟩
    · obtain rfl : j = k := by omega
      go_wp2_with fail
      go_ret
      exact ⟨rfl, rfl⟩

theorem info_u8 : (Tryd.prog.info? 5).map (fun i => (i.zero, i.size, i.bytes)) = some (some (.int .u8 0), 1, 1) := by kernel_rfl

set_option maxHeartbeats 400000 in
theorem tail_any (n : Int) (k : Nat) (w : World) (hk : k ≤ 8) (h0 : 0 ≤ n) (h1 : n ≤ 18446744073709551615) :
    Calls Tryd.prog 77 #[.int .u64 n, .int .i64 k] w fun e w' => ∃ A c, e = .returned (.slice A k c) ∧ Lst w' w'.heap.size A (u8s (HeadP.be n k)) ∧ Below w.heap.size w w' := by
  obtain ⟨i0, hi0, hz0, hz1, hz2⟩ := info_parts info_u8
  have hmx : ∀ k, k ≤ 200 → k ≤ maxLen := fun k hk => by unfold maxLen; omega
  have HM := Lib.hid hmx
  clear hmx
  go_enter Tryd.func77, Tryd.ntmps77
  go_wp2_with fail
  go_loopw [0, 5, 6] (fun x v i wr => ∃ (j : Nat) (A : Option Addr) (c : Nat), j ≤ k ∧ i = .int .i64 j ∧ x = .int .u64 (n / 2 ^ (8 * j)) ∧ v = .slice A j c ∧ Hid (Lst wr wr.heap.size A (u8s (HeadP.be n j))) ∧ Hid (Below w.heap.size w wr)) (fun _ _ i _ => k - (intOf i).toNat)
  case atStart => exact ⟨0, none, 0, Nat.zero_le _, rfl, by simp, rfl, .inl rfl, Below.refl _ _⟩
  case round =>
    obtain ⟨j, A, c, hj, rfl, rfl, rfl, hl, hB⟩ := hrel
    by_cases hlt : j < k
    · have hp : (0 : Int) < 2 ^ (8 * j) := Int.pow_pos (by omega)
      have hd0 : 0 ≤ n / 2 ^ (8 * j) := Int.ediv_nonneg h0 (by omega)
      have hd1 : n / 2 ^ (8 * j) ≤ n := Int.ediv_le_self _ h0
      have hbe : HeadP.be n (j + 1) = (n / 2 ^ (8 * j) % 256) :: HeadP.be n j := rfl
      have hdd : n / 2 ^ (8 * (j + 1)) = n / 2 ^ (8 * j) / 256 := by
        rw [show (2 : Int) ^ (8 * (j + 1)) = 2 ^ (8 * j) * 256 from by rw [show 8 * (j + 1) = 8 * j + 8 from rfl, Int.pow_add]; rfl, Int.ediv_ediv_of_nonneg (by omega)]
      have HBE := Lib.hid hbe
      have HDD := Lib.hid hdd
      clear hbe hdd hp
      generalize hq : n / 2 ^ (8 * j) = q at *
      have HQ := Lib.hid hq
      clear hq
      have hbl := HeadP.be_length j n
      have HBL := Lib.hid hbl
      clear hbl
      go_wp2_with (at_builtin
                   refine wpList_append_lst _ rfl (.tmp 15) (.tmp 16) _ (by rfl) wr.heap.size 5 i0 _ 1 Tryd.underlying23 hi0 hz0 hz1 hz2 rfl (.slice (some ⟨wr.heap.size, 0, none⟩) 1 1) 1 [.int .u8 (q % 256)] (by rfl)
                     (World.ownsRow_lit wr #[.int .u8 (q % 256)] 1 (Nat.le_refl _) (HM.out 1 (by omega)) rfl) wr.heap.size A j c (u8s (HeadP.be n j)) (by rfl) (by simp [HBL.out]) (hl.out.below ((Below.refl _ _).alloc (Nat.le_refl _) _)) (u8_one _) (HM.out _ (by omega)) (by omega) (by simp) ?_
                   intro v2 w2 hown2 hg2 hat2)
      obtain ⟨A2, c2, rfl, _, _, _⟩ := own_slice hown2
      have hb2 : Below wr.heap.size wr w2 := ((Below.refl _ _).alloc (Nat.le_refl _) _).grown hg2 (by simp) (fun k hk => by simp [Value.ownBlock] at hk; omega)
      refine ⟨⟨j + 1, A2, c2, hlt, by go_num, by rw [HDD.out], by rw [Nat.add_comm 1 j], ?_, below_next hB.out hB.out.size hb2⟩, by simp [intOf]; omega⟩
      have := Lst.of_own hown2
      rw [HBE.out]
      exact this
    · obtain rfl : j = k := by omega
      go_wp2_with fail
      go_ret
      exact ⟨A, c, rfl, hl.out, hB.out⟩

theorem tail_lit (n : Int) (k : Nat) (w : World) (K : Int) (hK : K = k) (hk : k ≤ 8) (h0 : 0 ≤ n) (h1 : n ≤ 18446744073709551615) :
    Calls Tryd.prog 77 #[.int .u64 n, .int .i64 K] w fun e w' => ∃ A c, e = .returned (.slice A k c) ∧ Lst w' w'.heap.size A (u8s (HeadP.be n k)) ∧ Below w.heap.size w w' := by
  subst hK
  exact tail_any n k w hk h0 h1
/-- Which class a number is of: how many bytes follow, and what the five bits say. -/
def cls (n : Int) (s i : Int) : Prop := (s = 1 ∧ i = 24 ∧ 24 ≤ n) ∨ (s = 2 ∧ i = 25 ∧ 256 ≤ n) ∨ (s = 4 ∧ i = 26 ∧ 65536 ≤ n) ∨ (s = 8 ∧ i = 27 ∧ 4294967296 ≤ n)
theorem cls_low (n s i : Int) (h : cls n s i) (hs : s < 8 → n < 2 ^ (8 * s.toNat)) : HeadP.lowN n = i ∧ HeadP.following i = s := by
  unfold cls at h
  unfold HeadP.lowN
  rcases h with ⟨rfl, rfl, h⟩ | ⟨rfl, rfl, h⟩ | ⟨rfl, rfl, h⟩ | ⟨rfl, rfl, h⟩
  · have : n < 256 := hs (by omega)
    rw [if_neg (by omega), if_pos (by omega)]; exact ⟨rfl, rfl⟩
  · have : n < 65536 := hs (by omega)
    rw [if_neg (by omega), if_neg (by omega), if_pos (by omega)]; exact ⟨rfl, rfl⟩
  · have : n < 4294967296 := hs (by omega)
    rw [if_neg (by omega), if_neg (by omega), if_neg (by omega), if_pos (by omega)]; exact ⟨rfl, rfl⟩
  · rw [if_neg (by omega), if_neg (by omega), if_neg (by omega), if_neg (by omega)]; exact ⟨rfl, rfl⟩

theorem power_8 (w : World) : Calls Tryd.prog 76 #[.int .i64 8] w fun e w' => e = .returned (.int .u64 256) ∧ w' = w := (power_any 8 w (by omega)).mono fun _ _ h => ⟨h.1, h.2.symm⟩
theorem power_16 (w : World) : Calls Tryd.prog 76 #[.int .i64 16] w fun e w' => e = .returned (.int .u64 65536) ∧ w' = w := (power_any 16 w (by omega)).mono fun _ _ h => ⟨h.1, h.2.symm⟩
theorem power_32 (w : World) : Calls Tryd.prog 76 #[.int .i64 32] w fun e w' => e = .returned (.int .u64 4294967296) ∧ w' = w := (power_any 32 w (by omega)).mono fun _ _ h => ⟨h.1, h.2.symm⟩

theorem own_base {w : World} {base base' n s : Nat} {e : TypeId} {v : Value} {vs : List Value} (h : w.ownsRow base e s v n vs) (hb : base' ≤ base) : w.ownsRow base' e s v n vs := by
  refine ⟨h.1, ?_⟩
  rcases h.2 with hn | ⟨g, cap, cur, e1, h1, h2⟩
  · exact .inl hn
  · exact .inr ⟨g, cap, cur, e1, Nat.le_trans hb h1, h2⟩

set_option maxRecDepth 100000 in
set_option maxHeartbeats 1000000 in
theorem write_own (m n : Int) (o : Bool) (w : World) (hr : HeadP.right m n o = true) (h0 : 0 ≤ n) (h1 : n ≤ 18446744073709551615) :
    Calls Tryd.prog 50 #[.agg #[.int .i64 m, .int .u64 n, .bool o]] w fun e w' =>
      ∃ A c, e = .returned (.slice A (HeadP.bytes m n o).length c) ∧ w'.ownsRow w.heap.size 5 1 (.slice A (HeadP.bytes m n o).length c) (HeadP.bytes m n o).length (u8s (HeadP.bytes m n o)) ∧ Below w.heap.size w w' := by
  obtain ⟨i0, hi0, hz0, hz1, hz2⟩ := info_parts info_u8
  have hmx : ∀ k, k ≤ 200 → k ≤ maxLen := fun k hk => by unfold maxLen; omega
  have HM := Lib.hid hmx
  clear hmx
  have hm := HeadP.right_major m n o hr
  cases o
  · by_cases a : n < 24
    · have hb : HeadP.bytes m n false = [32 * m + n] := by
        have : HeadP.low n false = n := by simp only [HeadP.low, Bool.false_eq_true, if_false, HeadP.lowN]; rw [if_pos a]
        simp only [HeadP.bytes, this]
        rw [show HeadP.following n = 0 from by rcases HeadP.following_cases n with h | h | h | h | h <;> omega, Int.mul_comm m 32]; rfl
      have HBB := Lib.hid hb
      clear hb
      go_enter Tryd.func50, Tryd.ntmps50
      go_wp2_with fail
      go_ret
      rw [HBB.out]
      refine ⟨_, _, rfl, ?_, ((Below.refl _ _).alloc (Nat.le_refl _) _).alloc (by simp) _⟩
      have := own_base (World.ownsRow_lit (e := 5) (size := 1) (w.alloc (.cells #[.int .i64 m, .int .u64 n, .bool false] 83)) #[.int .u8 (32 * m + n)] 1 (Nat.le_refl _) (HM.out 1 (by omega)) rfl) (show w.heap.size ≤ (w.alloc (.cells #[.int .i64 m, .int .u64 n, .bool false] 83)).heap.size by simp)
      simpa using this
    · have hcl := cls_low n
      have hby : ∀ s i : Int, HeadP.lowN n = i → HeadP.following i = s → HeadP.bytes m n false = (32 * m + i) :: HeadP.be n s.toNat := by
        intro s i e1 e2
        simp only [HeadP.bytes, HeadP.low, Bool.false_eq_true, if_false, e1, e2, Int.mul_comm m 32]
      have hbl := fun k => HeadP.be_length k n
      have HCL := Lib.hid hcl
      have HBY := Lib.hid hby
      have HBL := Lib.hid hbl
      clear hcl hby hbl
      go_enter Tryd.func50, Tryd.ntmps50
      go_wp2_with fail
      go_loopw [4, 5] (fun s i wr => ∃ (sz inf : Int), s = .int .i64 sz ∧ i = .int .u8 inf ∧ Hid (cls n sz inf) ∧ wr.cell? ⟨w.heap.size, 1, none⟩ = some (.int .u64 n) ∧ Hid (Below w.heap.size w wr) ∧ w.heap.size < wr.heap.size) (fun s _ _ => 8 - (intOf s).toNat)
      case atStart => exact ⟨1, 24, rfl, rfl, .inl ⟨rfl, rfl, by omega⟩, by simp, (Below.refl _ _).alloc (Nat.le_refl _) _, by simp⟩
      case round =>
        obtain ⟨sz, inf, rfl, rfl, hc, hc1, hB, hsz⟩ := hrel
        have hcc := hc.out
        unfold cls at hcc
        rcases hcc with ⟨rfl, rfl, hn⟩ | ⟨rfl, rfl, hn⟩ | ⟨rfl, rfl, hn⟩ | ⟨rfl, rfl, hn⟩
        · go_wp2_with fail
          go_quiet ((go_at_call 76; exact Calls.quiet_of_same (power_8 _)))
          have hc2 : (wr.drewN nq).cell? ⟨w.heap.size, 1, none⟩ = some (.int .u64 n) := by simpa using hc1
          have hB2 : Hid (Below w.heap.size w (wr.drewN nq)) := below_drewN hB.out _
          have hs2 : w.heap.size < (wr.drewN nq).heap.size := by simpa using hsz
          generalize wr.drewN nq = wq at *
          clear hc1 hB hsz
          by_cases hx : 256 ≤ n
          · go_wp2_with fail
            exact ⟨⟨2, 25, rfl, rfl, .inr (.inl ⟨rfl, rfl, hx⟩), hc2, hB2, hs2⟩, by simp [intOf]⟩
          · have hl := HCL.out 1 24 hc.out (fun _ => by show n < 256; omega)
            have HBB := Lib.hid (HBY.out 1 24 hl.1 hl.2)
            clear hl hc
            go_wp2_with fail
            refine (tail_lit n 1 _ 1 rfl (by omega) h0 h1).mono ?_
            rintro e w5 ⟨A5, c5, rfl, hl5, hb5⟩
            have HL5 := Lib.hid hl5
            have HB5 := Lib.hid hb5
            have f0 := (hb5.cell (p := ⟨wq.heap.size, 0, none⟩) (by simp))
            clear hl5 hb5
            have ho5 : w5.ownsRow wq.heap.size 5 1 (.slice (some ⟨wq.heap.size, 0, none⟩) 1 1) 1 [.int .u8 (32 * m + 24)] := own_later (World.ownsRow_lit wq #[.int .u8 (32 * m + 24)] 1 (Nat.le_refl _) (HM.out 1 (by omega)) rfl) HB5.out
            have HO5 := Lib.hid ho5
            clear ho5 f0
            have hbl := HBL.out 1
            have HBL1 := Lib.hid hbl
            clear hbl
            have hs5 : wq.heap.size ≤ w5.heap.size := by have := HB5.out.size; simp at this; omega
            go_wp2_with (at_builtin
                         refine wpList_append_lst _ rfl (.tmp 41) (.tmp 45) _ (by rfl) wq.heap.size 5 i0 _ 1 Tryd.underlying23 hi0 hz0 hz1 hz2 rfl (.slice (some ⟨wq.heap.size, 0, none⟩) 1 1) 1 [.int .u8 (32 * m + 24)] (by rfl)
                           HO5.out w5.heap.size A5 1 c5 (u8s (HeadP.be n 1)) (by rfl) (by simp [HBL1.out]) HL5.out (u8_one _) (HM.out _ (by omega)) (by omega) hs5 ?_
                         intro v2 w2 hown2 hg2 hat2)
            obtain ⟨A2, c2, rfl, _, _, _⟩ := own_slice hown2
            have hb2 : Below wq.heap.size wq w2 := ((below_box (Below.refl wq.heap.size wq) (Nat.le_refl _) HB5.out)).grown hg2 hs5 (fun k hk => by simp [Value.ownBlock] at hk; omega)
            have HB2 := Lib.hid (below_next hB2.out hB2.out.size hb2)
            have HL2 := Lib.hid (own_base hown2 hB2.out.size)
            clear hb2 hown2 hg2 hat2
            go_wp2_with fail
            go_ret
            rw [HBB.out]
            exact ⟨A2, c2, by simp [HBL1.out], by simpa [u8s, HBL1.out] using HL2.out, HB2.out⟩
        · go_wp2_with fail
          go_quiet ((go_at_call 76; exact Calls.quiet_of_same (power_16 _)))
          have hc2 : (wr.drewN nq).cell? ⟨w.heap.size, 1, none⟩ = some (.int .u64 n) := by simpa using hc1
          have hB2 : Hid (Below w.heap.size w (wr.drewN nq)) := below_drewN hB.out _
          have hs2 : w.heap.size < (wr.drewN nq).heap.size := by simpa using hsz
          generalize wr.drewN nq = wq at *
          clear hc1 hB hsz
          by_cases hx : 65536 ≤ n
          · go_wp2_with fail
            exact ⟨⟨4, 26, rfl, rfl, .inr (.inr (.inl ⟨rfl, rfl, hx⟩)), hc2, hB2, hs2⟩, by simp [intOf]⟩
          · have hl := HCL.out 2 25 hc.out (fun _ => by show n < 65536; omega)
            have HBB := Lib.hid (HBY.out 2 25 hl.1 hl.2)
            clear hl hc
            go_wp2_with fail
            refine (tail_lit n 2 _ 2 rfl (by omega) h0 h1).mono ?_
            rintro e w5 ⟨A5, c5, rfl, hl5, hb5⟩
            have HL5 := Lib.hid hl5
            have HB5 := Lib.hid hb5
            have f0 := (hb5.cell (p := ⟨wq.heap.size, 0, none⟩) (by simp))
            clear hl5 hb5
            have ho5 : w5.ownsRow wq.heap.size 5 1 (.slice (some ⟨wq.heap.size, 0, none⟩) 1 1) 1 [.int .u8 (32 * m + 25)] := own_later (World.ownsRow_lit wq #[.int .u8 (32 * m + 25)] 1 (Nat.le_refl _) (HM.out 1 (by omega)) rfl) HB5.out
            have HO5 := Lib.hid ho5
            clear ho5 f0
            have hbl := HBL.out 2
            have HBL1 := Lib.hid hbl
            clear hbl
            have hs5 : wq.heap.size ≤ w5.heap.size := by have := HB5.out.size; simp at this; omega
            go_wp2_with (at_builtin
                         refine wpList_append_lst _ rfl (.tmp 41) (.tmp 45) _ (by rfl) wq.heap.size 5 i0 _ 1 Tryd.underlying23 hi0 hz0 hz1 hz2 rfl (.slice (some ⟨wq.heap.size, 0, none⟩) 1 1) 1 [.int .u8 (32 * m + 25)] (by rfl)
                           HO5.out w5.heap.size A5 2 c5 (u8s (HeadP.be n 2)) (by rfl) (by simp [HBL1.out]) HL5.out (u8_one _) (HM.out _ (by omega)) (by omega) hs5 ?_
                         intro v2 w2 hown2 hg2 hat2)
            obtain ⟨A2, c2, rfl, _, _, _⟩ := own_slice hown2
            have hb2 : Below wq.heap.size wq w2 := ((below_box (Below.refl wq.heap.size wq) (Nat.le_refl _) HB5.out)).grown hg2 hs5 (fun k hk => by simp [Value.ownBlock] at hk; omega)
            have HB2 := Lib.hid (below_next hB2.out hB2.out.size hb2)
            have HL2 := Lib.hid (own_base hown2 hB2.out.size)
            clear hb2 hown2 hg2 hat2
            go_wp2_with fail
            go_ret
            rw [HBB.out]
            exact ⟨A2, c2, by simp [HBL1.out], by simpa [u8s, HBL1.out] using HL2.out, HB2.out⟩
        · go_wp2_with fail
          go_quiet ((go_at_call 76; exact Calls.quiet_of_same (power_32 _)))
          have hc2 : (wr.drewN nq).cell? ⟨w.heap.size, 1, none⟩ = some (.int .u64 n) := by simpa using hc1
          have hB2 : Hid (Below w.heap.size w (wr.drewN nq)) := below_drewN hB.out _
          have hs2 : w.heap.size < (wr.drewN nq).heap.size := by simpa using hsz
          generalize wr.drewN nq = wq at *
          clear hc1 hB hsz
          by_cases hx : 4294967296 ≤ n
          · go_wp2_with fail
            exact ⟨⟨8, 27, rfl, rfl, .inr (.inr (.inr ⟨rfl, rfl, hx⟩)), hc2, hB2, hs2⟩, by simp [intOf]⟩
          · have hl := HCL.out 4 26 hc.out (fun _ => by show n < 4294967296; omega)
            have HBB := Lib.hid (HBY.out 4 26 hl.1 hl.2)
            clear hl hc
            go_wp2_with fail
            refine (tail_lit n 4 _ 4 rfl (by omega) h0 h1).mono ?_
            rintro e w5 ⟨A5, c5, rfl, hl5, hb5⟩
            have HL5 := Lib.hid hl5
            have HB5 := Lib.hid hb5
            have f0 := (hb5.cell (p := ⟨wq.heap.size, 0, none⟩) (by simp))
            clear hl5 hb5
            have ho5 : w5.ownsRow wq.heap.size 5 1 (.slice (some ⟨wq.heap.size, 0, none⟩) 1 1) 1 [.int .u8 (32 * m + 26)] := own_later (World.ownsRow_lit wq #[.int .u8 (32 * m + 26)] 1 (Nat.le_refl _) (HM.out 1 (by omega)) rfl) HB5.out
            have HO5 := Lib.hid ho5
            clear ho5 f0
            have hbl := HBL.out 4
            have HBL1 := Lib.hid hbl
            clear hbl
            have hs5 : wq.heap.size ≤ w5.heap.size := by have := HB5.out.size; simp at this; omega
            go_wp2_with (at_builtin
                         refine wpList_append_lst _ rfl (.tmp 41) (.tmp 45) _ (by rfl) wq.heap.size 5 i0 _ 1 Tryd.underlying23 hi0 hz0 hz1 hz2 rfl (.slice (some ⟨wq.heap.size, 0, none⟩) 1 1) 1 [.int .u8 (32 * m + 26)] (by rfl)
                           HO5.out w5.heap.size A5 4 c5 (u8s (HeadP.be n 4)) (by rfl) (by simp [HBL1.out]) HL5.out (u8_one _) (HM.out _ (by omega)) (by omega) hs5 ?_
                         intro v2 w2 hown2 hg2 hat2)
            obtain ⟨A2, c2, rfl, _, _, _⟩ := own_slice hown2
            have hb2 : Below wq.heap.size wq w2 := ((below_box (Below.refl wq.heap.size wq) (Nat.le_refl _) HB5.out)).grown hg2 hs5 (fun k hk => by simp [Value.ownBlock] at hk; omega)
            have HB2 := Lib.hid (below_next hB2.out hB2.out.size hb2)
            have HL2 := Lib.hid (own_base hown2 hB2.out.size)
            clear hb2 hown2 hg2 hat2
            go_wp2_with fail
            go_ret
            rw [HBB.out]
            exact ⟨A2, c2, by simp [HBL1.out], by simpa [u8s, HBL1.out] using HL2.out, HB2.out⟩
        · go_wp2_with fail
          go_quiet (fail)
          have hc2 : (wr.drewN nq).cell? ⟨w.heap.size, 1, none⟩ = some (.int .u64 n) := by simpa using hc1
          have hB2 : Hid (Below w.heap.size w (wr.drewN nq)) := below_drewN hB.out _
          have hs2 : w.heap.size < (wr.drewN nq).heap.size := by simpa using hsz
          generalize wr.drewN nq = wq at *
          clear hc1 hB hsz
          have hl := HCL.out 8 27 hc.out (fun _ => by omega)
          have HBB := Lib.hid (HBY.out 8 27 hl.1 hl.2)
          clear hl hc
          go_wp2_with fail
          refine (tail_lit n 8 _ 8 rfl (by omega) h0 h1).mono ?_
          rintro e w5 ⟨A5, c5, rfl, hl5, hb5⟩
          have HL5 := Lib.hid hl5
          have HB5 := Lib.hid hb5
          have f0 := (hb5.cell (p := ⟨wq.heap.size, 0, none⟩) (by simp))
          clear hl5 hb5
          have ho5 : w5.ownsRow wq.heap.size 5 1 (.slice (some ⟨wq.heap.size, 0, none⟩) 1 1) 1 [.int .u8 (32 * m + 27)] := own_later (World.ownsRow_lit wq #[.int .u8 (32 * m + 27)] 1 (Nat.le_refl _) (HM.out 1 (by omega)) rfl) HB5.out
          have HO5 := Lib.hid ho5
          clear ho5 f0
          have hbl := HBL.out 8
          have HBL1 := Lib.hid hbl
          clear hbl
          have hs5 : wq.heap.size ≤ w5.heap.size := by have := HB5.out.size; simp at this; omega
          go_wp2_with (at_builtin
                       refine wpList_append_lst _ rfl (.tmp 41) (.tmp 45) _ (by rfl) wq.heap.size 5 i0 _ 1 Tryd.underlying23 hi0 hz0 hz1 hz2 rfl (.slice (some ⟨wq.heap.size, 0, none⟩) 1 1) 1 [.int .u8 (32 * m + 27)] (by rfl)
                         HO5.out w5.heap.size A5 8 c5 (u8s (HeadP.be n 8)) (by rfl) (by simp [HBL1.out]) HL5.out (u8_one _) (HM.out _ (by omega)) (by omega) hs5 ?_
                       intro v2 w2 hown2 hg2 hat2)
          obtain ⟨A2, c2, rfl, _, _, _⟩ := own_slice hown2
          have hb2 : Below wq.heap.size wq w2 := ((below_box (Below.refl wq.heap.size wq) (Nat.le_refl _) HB5.out)).grown hg2 hs5 (fun k hk => by simp [Value.ownBlock] at hk; omega)
          have HB2 := Lib.hid (below_next hB2.out hB2.out.size hb2)
          have HL2 := Lib.hid (own_base hown2 hB2.out.size)
          clear hb2 hown2 hg2 hat2
          go_wp2_with fail
          go_ret
          rw [HBB.out]
          exact ⟨A2, c2, by simp [HBL1.out], by simpa [u8s, HBL1.out] using HL2.out, HB2.out⟩
  · have hb : HeadP.bytes m n true = [32 * m + 31] := by rw [Int.mul_comm]; rfl
    have HBB := Lib.hid hb
    clear hb
    go_enter Tryd.func50, Tryd.ntmps50
    go_wp2_with fail
    go_ret
    rw [HBB.out]
    refine ⟨_, _, rfl, ?_, ((Below.refl _ _).alloc (Nat.le_refl _) _).alloc (by simp) _⟩
    have := own_base (World.ownsRow_lit (e := 5) (size := 1) (w.alloc (.cells #[.int .i64 m, .int .u64 n, .bool true] 83)) #[.int .u8 (32 * m + 31)] 1 (Nat.le_refl _) (HM.out 1 (by omega)) rfl) (show w.heap.size ≤ (w.alloc (.cells #[.int .i64 m, .int .u64 n, .bool true] 83)).heap.size by simp)
    simpa using this
theorem write_any (m n : Int) (o : Bool) (w : World) (hr : HeadP.right m n o = true) (h0 : 0 ≤ n) (h1 : n ≤ 18446744073709551615) :
    Calls Tryd.prog 50 #[.agg #[.int .i64 m, .int .u64 n, .bool o]] w fun e w' =>
      ∃ A c, e = .returned (.slice A (HeadP.bytes m n o).length c) ∧ Lst w' w'.heap.size A (u8s (HeadP.bytes m n o)) ∧ Below w.heap.size w w' := by
  refine (write_own m n o w hr h0 h1).mono ?_
  rintro e w' ⟨A, c, rfl, h, hb⟩
  exact ⟨A, c, rfl, Lst.of_own h, hb⟩

end Go.Proofs.YtoieadbifhealaaDoor.RefHead
