/- The walk of the statement SumsTogether. -/
import Derived.Test.YtgjihjijlhdjdaaSumsAlive
import Derived.Test.YtgjihjijlhdjdaaApp
import Derived.Deep.RegionHeld3
import Derived.Deep.RegionLaw
namespace Go.Proofs.Ytgjihjijlhdjdaa.SumsTogether
open Go.RowKit Wd SumW Ctr SumsAlive
attribute [local go_sem ↓] Go.wp_at_zero Go.wp_at_succ

theorem info_u8 : (Try.prog.info? 5).map (fun i => (i.zero, i.size, i.bytes)) = some (some (.int .u8 0), 1, 1) := by kernel_rfl

/-- The three texts together. -/
def tri (a b c : List Int) : List Nat := List.zipWith (· ^^^ ·) (List.zipWith (· ^^^ ·) (nb a) (nb b)) (nb c)
def triI (a b c : List Int) (k : Nat) : List Int := ((tri a b c).take k).map Int.ofNat
theorem tri_length (a b c : List Int) (h1 : a.length = b.length) (h2 : b.length = c.length) : (tri a b c).length = a.length := by simp [tri, nb]; omega
theorem triI_length (a b c : List Int) (h1 : a.length = b.length) (h2 : b.length = c.length) (k : Nat) (hk : k ≤ a.length) : (triI a b c k).length = k := by simp [triI, tri_length a b c h1 h2]; omega
theorem triI_snoc (a b c : List Int) (h1 : a.length = b.length) (h2 : b.length = c.length) (k : Nat) (hk : k < a.length) :
    triI a b c (k + 1) = triI a b c k ++ [(((a.getD k 0).toNat ^^^ (b.getD k 0).toNat ^^^ (c.getD k 0).toNat : Nat) : Int)] := by
  unfold triI
  have hl := tri_length a b c h1 h2
  rw [List.take_succ_eq_append_getElem (by omega), List.map_append]
  congr 1
  simp [tri, nb, List.getD, List.getElem?_eq_getElem (show k < a.length by omega), List.getElem?_eq_getElem (show k < b.length by omega), List.getElem?_eq_getElem (show k < c.length by omega)]
theorem triI_nb (a b c : List Int) (h1 : a.length = b.length) (h2 : b.length = c.length) : nb (triI a b c a.length) = tri a b c := by
  unfold triI nb
  rw [List.take_of_length_le (by rw [tri_length a b c h1 h2]; exact Nat.le_refl _), List.map_map]
  conv => rhs; rw [← List.map_id (tri a b c)]
  exact List.map_congr_left fun n _ => by simp
theorem getD_bound (a : List Int) (h : St.bts a) (k : Nat) : 0 ≤ a.getD k 0 ∧ a.getD k 0 ≤ 255 := by
  rcases Nat.lt_or_ge k a.length with hk | hk
  · exact h _ (by simp [List.getD, List.getElem?_eq_getElem hk])
  · simp [List.getD, List.getElem?_eq_none hk]
theorem triI_bts (a b c : List Int) (h1 : a.length = b.length) (h2 : b.length = c.length) (ha : St.bts a) (hb : St.bts b) (hc : St.bts c) : ∀ k, k ≤ a.length → St.bts (triI a b c k)
  | 0, _ => fun x hx => by simp [triI] at hx
  | k + 1, hk => fun x hx => by
    rw [triI_snoc a b c h1 h2 k (by omega), List.mem_append] at hx
    rcases hx with hx | hx
    · exact triI_bts a b c h1 h2 ha hb hc k (by omega) x hx
    · simp only [List.mem_singleton] at hx
      subst hx
      have p := getD_bound a ha k
      have q := getD_bound b hb k
      have r := getD_bound c hc k
      have : (a.getD k 0).toNat ^^^ (b.getD k 0).toNat ^^^ (c.getD k 0).toNat < 256 := Nat.xor_lt_two_pow (n := 8) (Nat.xor_lt_two_pow (n := 8) (by omega) (by omega)) (by omega)
      omega

theorem nb_lt (a : List Int) (h : ∀ x ∈ a, 0 ≤ x ∧ x ≤ 255) : ∀ x ∈ nb a, x < 256 := fun x hx => by
  simp only [nb, List.mem_map] at hx
  obtain ⟨y, hy, rfl⟩ := hx
  have := h y hy
  omega
theorem three (F x y z : Nat) : F ^^^ (x ^^^ y ^^^ z) = (F ^^^ x) ^^^ (F ^^^ y) ^^^ (F ^^^ z) := by
  apply Nat.eq_of_testBit_eq
  intro i
  simp only [Nat.testBit_xor]
  cases F.testBit i <;> cases x.testBit i <;> cases y.testBit i <;> cases z.testBit i <;> rfl
theorem tri_lt (a b c : List Int) (ha : St.bts a) (hb : St.bts b) (hc : St.bts c) : ∀ x ∈ tri a b c, x < 256 := by
  intro x hx
  obtain ⟨i, hi, rfl⟩ := List.mem_iff_getElem.mp hx
  have hl : i < (nb a).length ∧ i < (nb b).length ∧ i < (nb c).length := by simp [tri] at hi; omega
  simp only [tri, List.getElem_zipWith]
  exact Nat.xor_lt_two_pow (n := 8) (Nat.xor_lt_two_pow (n := 8) (nb_lt a ha _ (List.getElem_mem hl.1)) (nb_lt b hb _ (List.getElem_mem hl.2.1))) (nb_lt c hc _ (List.getElem_mem hl.2.2))
theorem long_turn (l : List Nat) (h : ∀ x ∈ l, x < 256) : SumP.long l = 4294967295 ^^^ SumP.crc SumP.PL 4294967295 l := (Bt.turn 32 _ (SumP.crc_lt SumP.PL 32 (by decide) (by decide) l 4294967295 h (by decide))).symm
theorem short_turn (l : List Nat) (h : ∀ x ∈ l, x < 256) : SumP.short l = 65535 ^^^ SumP.crc SumP.PS 65535 l := (Bt.turn 16 _ (SumP.crc_lt SumP.PS 16 (by decide) (by decide) l 65535 h (by decide))).symm
theorem long_lt (l : List Nat) : SumP.long l < 4294967296 := by unfold SumP.long; omega
theorem short_lt (l : List Nat) : SumP.short l < 65536 := by unfold SumP.short; omega
/-- The sum of three texts together, in the walk's own spelling. -/
theorem long_tri (a b c : List Int) (h1 : a.length = b.length) (h2 : b.length = c.length) (ha : St.bts a) (hb : St.bts b) (hc : St.bts c) :
    SumP.long (tri a b c) = SumP.long (nb a) ^^^ SumP.long (nb b) ^^^ SumP.long (nb c) ∧
    bits .xor .u32 (SumP.long (nb a) : Int) (SumP.long (nb b) : Int) = ((SumP.long (nb a) ^^^ SumP.long (nb b) : Nat) : Int) ∧
    bits .xor .u32 ((SumP.long (nb a) ^^^ SumP.long (nb b) : Nat) : Int) (SumP.long (nb c) : Int) = ((SumP.long (nb a) ^^^ SumP.long (nb b) ^^^ SumP.long (nb c) : Nat) : Int) := by
  refine ⟨?_, u32_xor_nat _ _ (long_lt _) (long_lt _), u32_xor_nat _ _ (Nat.xor_lt_two_pow (n := 32) (long_lt _) (long_lt _)) (long_lt _)⟩
  rw [long_turn _ (tri_lt a b c ha hb hc), long_turn _ (nb_lt a ha), long_turn _ (nb_lt b hb), long_turn _ (nb_lt c hc)]
  unfold tri
  rw [SumP.crc_three _ _ _ _ _ (by simp [nb, h1]) (by simp [nb, h2]), three]
theorem short_tri (a b c : List Int) (h1 : a.length = b.length) (h2 : b.length = c.length) (ha : St.bts a) (hb : St.bts b) (hc : St.bts c) :
    SumP.short (tri a b c) = SumP.short (nb a) ^^^ SumP.short (nb b) ^^^ SumP.short (nb c) ∧
    bits .xor .u16 (SumP.short (nb a) : Int) (SumP.short (nb b) : Int) = ((SumP.short (nb a) ^^^ SumP.short (nb b) : Nat) : Int) ∧
    bits .xor .u16 ((SumP.short (nb a) ^^^ SumP.short (nb b) : Nat) : Int) (SumP.short (nb c) : Int) = ((SumP.short (nb a) ^^^ SumP.short (nb b) ^^^ SumP.short (nb c) : Nat) : Int) := by
  refine ⟨?_, u16_xor_nat _ _ (short_lt _) (short_lt _), u16_xor_nat _ _ (Nat.xor_lt_two_pow (n := 16) (short_lt _) (short_lt _)) (short_lt _)⟩
  rw [short_turn _ (tri_lt a b c ha hb hc), short_turn _ (nb_lt a ha), short_turn _ (nb_lt b hb), short_turn _ (nb_lt c hc)]
  unfold tri
  rw [SumP.crc_three _ _ _ _ _ (by simp [nb, h1]) (by simp [nb, h2]), three]

set_option maxRecDepth 100000 in
set_option maxHeartbeats 1600000 in
theorem walk_out (A1 A2 A3 : Option Addr) (n1 n2 n3 c1 c2 c3 : Nat) (w : World) (h : 3000 < n1 ∨ n1 ≠ n2 ∨ n2 ≠ n3) :
    Calls Try.prog 5 #[.slice A1 n1 c1, .slice A2 n2 c2, .slice A3 n3 c3] w fun e w' => e = .returned (.bool true) ∧ Below w.heap.size w w' := by
  by_cases h1 : 3000 < n1
  · go_enter Try.func5, Try.ntmps5
    go_wp2_with fail
    refine (alive_any _).mono ?_
    rintro e w3 ⟨rfl, hb3⟩
    have HB3 := Lib.hid hb3
    clear hb3
    go_wp2_with fail
    go_ret
    exact ⟨rfl, HB3.out⟩
  by_cases h2 : n1 ≠ n2
  · have h2' : ((n1 : Int) != (n2 : Int)) = true := by simp; omega
    go_enter Try.func5, Try.ntmps5
    go_wp2_with fail
    refine (alive_any _).mono ?_
    rintro e w3 ⟨rfl, hb3⟩
    have HB3 := Lib.hid hb3
    clear hb3
    go_wp2_with fail
    go_ret
    exact ⟨rfl, HB3.out⟩
  · have h3 : n2 ≠ n3 := by omega
    have h2' : ((n1 : Int) != (n2 : Int)) = false := by simp; omega
    have h3' : ((n2 : Int) != (n3 : Int)) = true := by simp; omega
    clear h h2
    go_enter Try.func5, Try.ntmps5
    go_wp2_with fail
    refine (alive_any _).mono ?_
    rintro e w3 ⟨rfl, hb3⟩
    have HB3 := Lib.hid hb3
    clear hb3
    go_wp2_with fail
    go_ret
    exact ⟨rfl, HB3.out⟩

set_option maxRecDepth 100000 in
set_option maxHeartbeats 4000000 in
theorem walk_in (A1 A2 A3 : Option Addr) (c1 c2 c3 : Nat) (x1 x2 x3 : List Int) (w : World) (h1 : x1.length ≤ 3000) (e1 : x1.length = x2.length) (e2 : x2.length = x3.length)
    (s1 : Lst w w.heap.size A1 (u8s x1)) (s2 : Lst w w.heap.size A2 (u8s x2)) (s3 : Lst w w.heap.size A3 (u8s x3)) (b1 : St.bts x1) (b2 : St.bts x2) (b3 : St.bts x3) :
    Calls Try.prog 5 #[.slice A1 x1.length c1, .slice A2 x2.length c2, .slice A3 x3.length c3] w fun e w' => e = .returned (.bool true) ∧ Below w.heap.size w w' := by
  have hn1 : ((x1.length : Int) != (x2.length : Int)) = false := by simp; omega
  have hn2 : ((x2.length : Int) != (x3.length : Int)) = false := by simp; omega
  have i1 : x1.length ≤ x2.length := by omega
  have i2 : x1.length ≤ x3.length := by omega
  have E1 := Lib.hid e1
  have E2 := Lib.hid e2
  clear e1 e2
  obtain ⟨i0, hi0, hz0, hz1, hz2⟩ := info_parts info_u8
  have HM := Lib.hid (fun (k : Nat) (hk : k ≤ 4000) => (show k ≤ maxLen by unfold maxLen; omega))
  have HS1 := Lib.hid s1
  have HS2 := Lib.hid s2
  have HS3 := Lib.hid s3
  have HX1 := Lib.hid b1
  have HX2 := Lib.hid b2
  have HX3 := Lib.hid b3
  clear s1 s2 s3 b1 b2 b3
  go_enter Try.func5, Try.ntmps5
  go_wp2_with fail
  go_loopw [7, 8] (fun v i wr => ∃ (k : Nat) (vv : Value), k ≤ x1.length ∧ i = .int .i64 k ∧ vv = v ∧ Hid (wr.ownsRow w.heap.size 5 1 vv k (u8s (triI x1 x2 x3 k))) ∧ Hid (Below w.heap.size w wr)) (fun _ i _ => x1.length - (intOf i).toNat)
  case atStart => exact ⟨0, .slice none 0 0, by omega, rfl, rfl, Lib.hid (by simpa [triI] using World.ownsRow_nil w w.heap.size 5 1), Below.refl _ _⟩
  case round =>
    rename_i wr
    obtain ⟨k, vv, hk, rfl, rfl, ho, hB⟩ := hrel
    by_cases hlt : k < x1.length
    · obtain ⟨p1, o1, rfl, hp1, hc1⟩ := HS1.out.bytes hlt
      obtain ⟨p2, o2, rfl, hp2, hc2⟩ := HS2.out.bytes (show k < x2.length by omega)
      obtain ⟨p3, o3, rfl, hp3, hc3⟩ := HS3.out.bytes (show k < x3.length by omega)
      have KP : ∀ W, Below w.heap.size w W → W.cell? ⟨p1, o1 + k, none⟩ = some (.int .u8 (x1.getD k 0)) ∧ W.cell? ⟨p2, o2 + k, none⟩ = some (.int .u8 (x2.getD k 0)) ∧ W.cell? ⟨p3, o3 + k, none⟩ = some (.int .u8 (x3.getD k 0)) :=
        fun W hW => ⟨(hW.cell (p := ⟨p1, o1 + k, none⟩) hp1).trans (hc1 k hlt), (hW.cell (p := ⟨p2, o2 + k, none⟩) hp2).trans (hc2 k (by omega)), (hW.cell (p := ⟨p3, o3 + k, none⟩) hp3).trans (hc3 k (by omega))⟩
      have HT := Lib.hid (triI_snoc x1 x2 x3 E1.out E2.out k hlt)
      have q1 := getD_bound x1 HX1.out k
      have q2 := getD_bound x2 HX2.out k
      have q3 := getD_bound x3 HX3.out k
      clear hc1 hc2 hc3
      generalize x1.getD k 0 = y1 at *
      generalize x2.getD k 0 = y2 at *
      generalize x3.getD k 0 = y3 at *
      obtain ⟨z1, rfl⟩ := Int.eq_ofNat_of_zero_le q1.1
      obtain ⟨z2, rfl⟩ := Int.eq_ofNat_of_zero_le q2.1
      obtain ⟨z3, rfl⟩ := Int.eq_ofNat_of_zero_le q3.1
      simp only [Int.toNat_natCast] at HT
      have hxa : bits .xor .u8 (z1 : Int) (z2 : Int) = ((z1 ^^^ z2 : Nat) : Int) := u8_xor_nat z1 z2 (by omega) (by omega)
      have hxl : z1 ^^^ z2 < 256 := Nat.xor_lt_two_pow (n := 8) (by omega) (by omega)
      have hxb : bits .xor .u8 ((z1 ^^^ z2 : Nat) : Int) (z3 : Int) = ((z1 ^^^ z2 ^^^ z3 : Nat) : Int) := u8_xor_nat _ z3 hxl (by omega)
      have HKP := Lib.hid KP
      have HBd := Lib.hid (hB.out.drew)
      have j0 : (0 : Int) ≤ (k : Int) := by omega
      have j1 : (k : Int) < (x1.length : Int) := by omega
      have j2 : (k : Int) < (x2.length : Int) := by omega
      have j3 : (k : Int) < (x3.length : Int) := by omega
      clear KP
      go_wp2_with fail
      go_region_held3 (fun w' => w'.cell? ⟨p1, o1 + k, none⟩ = some (.int .u8 (z1 : Int)) ∧ w'.cell? ⟨p2, o2 + k, none⟩ = some (.int .u8 (z2 : Int)) ∧ w'.cell? ⟨p3, o3 + k, none⟩ = some (.int .u8 (z3 : Int)))
        (first | exact HKP.out _ HB2.out | exact HKP.out _ (HBd.out.alloc HBd.out.size _) | exact HKP.out _ HBd.out)
        ((refine step_append_lst _ (by rfl) (.tmp 33) (.tmp 48) _ (by rfl) w.heap.size 5 i0 _ 1 Try.underlying22 hi0 hz0 hz1 hz2 rfl vv k (u8s (triI x1 x2 x3 k)) (by rfl)
            ((ho.out.drew).alloc _) (wr.heap.size + 1) (some ⟨wr.heap.size, 0, none⟩) 1 1 [.int .u8 ((z1 ^^^ z2 ^^^ z3 : Nat) : Int)] (by rfl) rfl (Lst.lit wr.drew #[.int .u8 ((z1 ^^^ z2 ^^^ z3 : Nat) : Int)] 5) (by intro u hu; simp at hu; subst hu; rfl)
            (HM.out _ (by omega)) (by omega) (by have := hB.out.size; simp; omega) ?_
          intro v2 w2 hown2 hg2 hat2
          have HB2 := Lib.hid ((HBd.out.alloc HBd.out.size _).grown hg2 (HBd.out.alloc HBd.out.size _).size (fun j hj => (ho.out.lt j hj).1))))
      go_wp2_with fail
      refine ⟨⟨k + 1, v2, hlt, by go_num, rfl, ?_, HB2.out⟩, by simp [intOf]; omega⟩
      have h := hown2
      rw [show u8s (triI x1 x2 x3 k) ++ [Value.int .u8 ((z1 ^^^ z2 ^^^ z3 : Nat) : Int)] = u8s (triI x1 x2 x3 (k + 1)) from by rw [HT.out]; simp [u8s]] at h
      exact h
    · obtain rfl : k = x1.length := by omega
      have hd := triI_bts x1 x2 x3 E1.out E2.out HX1.out HX2.out HX3.out x1.length (Nat.le_refl _)
      have hdl := triI_length x1 x2 x3 E1.out E2.out x1.length (Nat.le_refl _)
      have hnb := triI_nb x1 x2 x3 E1.out E2.out
      have hll := long_tri x1 x2 x3 E1.out E2.out HX1.out HX2.out HX3.out
      have hls := short_tri x1 x2 x3 E1.out E2.out HX1.out HX2.out HX3.out
      rw [← hnb] at hll hls
      obtain ⟨Ad, cd, rfl, _, _, _⟩ := own_slice ho.out
      have hLd := Lst.of_own ho.out
      generalize triI x1 x2 x3 x1.length = ds at *
      have HLd := Lib.hid hLd
      have HLL := Lib.hid hll
      have HLS := Lib.hid hls
      have HDL := Lib.hid hdl
      have m1 : x1.length ≤ maxLen := HM.out _ (by omega)
      have m2 : x2.length ≤ maxLen := HM.out _ (by have := E1.out; omega)
      have m3 : x3.length ≤ maxLen := HM.out _ (by have := E1.out; have := E2.out; omega)
      have C1 := Lib.hid (fun (W : World) (hb : Below w.heap.size w W) => SumW.long_any A1 w.heap.size c1 x1 W (HS1.out.below hb) HX1.out m1)
      have C2 := Lib.hid (fun (W : World) (hb : Below w.heap.size w W) => SumW.long_any A2 w.heap.size c2 x2 W (HS2.out.below hb) HX2.out m2)
      have C3 := Lib.hid (fun (W : World) (hb : Below w.heap.size w W) => SumW.long_any A3 w.heap.size c3 x3 W (HS3.out.below hb) HX3.out m3)
      have D1 := Lib.hid (fun (W : World) (hb : Below w.heap.size w W) => SumW.short_any A1 w.heap.size c1 x1 W (HS1.out.below hb) HX1.out m1)
      have D2 := Lib.hid (fun (W : World) (hb : Below w.heap.size w W) => SumW.short_any A2 w.heap.size c2 x2 W (HS2.out.below hb) HX2.out m2)
      have D3 := Lib.hid (fun (W : World) (hb : Below w.heap.size w W) => SumW.short_any A3 w.heap.size c3 x3 W (HS3.out.below hb) HX3.out m3)
      have C0 : Hid (∀ W, Below wr.heap.size wr W → Calls Try.prog 15 #[.slice Ad x1.length cd] W fun e w' => e = .returned (.int .u32 (SumP.long (nb ds) : Nat)) ∧ W = w') := by
        intro W hb
        have := SumW.long_any Ad wr.heap.size cd ds W (HLd.out.below hb) hd (by rw [HDL.out]; exact m1)
        rwa [HDL.out] at this
      have D0 : Hid (∀ W, Below wr.heap.size wr W → Calls Try.prog 13 #[.slice Ad x1.length cd] W fun e w' => e = .returned (.int .u16 (SumP.short (nb ds) : Nat)) ∧ W = w') := by
        intro W hb
        have := SumW.short_any Ad wr.heap.size cd ds W (HLd.out.below hb) hd (by rw [HDL.out]; exact m1)
        rwa [HDL.out] at this
      clear hll hls hLd hnb hd hdl m1 m2 m3
      go_wp2_with fail
      refine (alive_any _).mono ?_
      rintro e w3 ⟨rfl, hb3⟩
      have HBr := Lib.hid hb3
      have HBw := Lib.hid (below_next hB.out hB.out.size hb3)
      clear hb3
      go_wp2_with fail
      refine (C0.out _ HBr.out).mono ?_
      rintro e w4 ⟨rfl, rfl⟩
      go_wp2_with fail
      refine (C1.out _ HBw.out).mono ?_
      rintro e w4 ⟨rfl, rfl⟩
      go_wp2_with fail
      refine (C2.out _ HBw.out).mono ?_
      rintro e w4 ⟨rfl, rfl⟩
      go_wp2_with fail
      refine (C3.out _ HBw.out).mono ?_
      rintro e w4 ⟨rfl, rfl⟩
      rw [HLL.out.1]
      have g1 := HLL.out.2.1
      have g2 := HLL.out.2.2
      go_wp2_with fail
      refine (D0.out _ HBr.out).mono ?_
      rintro e w4 ⟨rfl, rfl⟩
      go_wp2_with fail
      refine (D1.out _ HBw.out).mono ?_
      rintro e w4 ⟨rfl, rfl⟩
      go_wp2_with fail
      refine (D2.out _ HBw.out).mono ?_
      rintro e w4 ⟨rfl, rfl⟩
      go_wp2_with fail
      refine (D3.out _ HBw.out).mono ?_
      rintro e w4 ⟨rfl, rfl⟩
      rw [HLS.out.1]
      have g3 := HLS.out.2.1
      have g4 := HLS.out.2.2
      go_wp2_with fail
      go_ret
      exact ⟨rfl, HBw.out⟩

theorem walk (A1 : Option Addr) (c1 : Nat) (x1 : List Int) (A2 : Option Addr) (c2 : Nat) (x2 : List Int) (A3 : Option Addr) (c3 : Nat) (x3 : List Int) (w : World)
    (_l1 : x1.length ≤ c1) (_m1 : c1 ≤ maxLen) (s1 : Lst w w.heap.size A1 (u8s x1)) (b1 : St.bts x1) (_l2 : x2.length ≤ c2) (_m2 : c2 ≤ maxLen) (s2 : Lst w w.heap.size A2 (u8s x2)) (b2 : St.bts x2)
    (_l3 : x3.length ≤ c3) (_m3 : c3 ≤ maxLen) (s3 : Lst w w.heap.size A3 (u8s x3)) (b3 : St.bts x3) :
    Calls Try.prog 5 #[.slice A1 x1.length c1, .slice A2 x2.length c2, .slice A3 x3.length c3] w fun e w' => e = .returned (.bool true) ∧ Below w.heap.size w w' := by
  by_cases h : 3000 < x1.length ∨ x1.length ≠ x2.length ∨ x2.length ≠ x3.length
  · exact walk_out A1 A2 A3 _ _ _ c1 c2 c3 w h
  · exact walk_in A1 A2 A3 c1 c2 c3 x1 x2 x3 w (by omega) (by omega) (by omega) s1 s2 s3 b1 b2 b3
end Go.Proofs.Ytgjihjijlhdjdaa.SumsTogether
