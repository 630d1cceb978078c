/- The contract of head.Write. -/
import Derived.Test.YtoieadbifhealaaDoorHeadA
import Derived.Test.YtoieadbifhealaaDoorBits
namespace Go.Proofs.YtoieadbifhealaaDoor.HeadW
open Go.RowKit Wd

theorem info_u8 : (Tryd.prog.info? 5).map (fun i => (i.zero, i.size, i.bytes)) = some (some (.int .u8 0), 1, 1) := by kernel_rfl

theorem write_no (m n : Int) (o : Bool) (w : World) (hr : HeadP.right m n o = false) :
    Calls Tryd.prog 73 #[.agg #[.int .i64 m, .int .u64 n, .bool o]] w fun e w' => e = .returned (.tuple #[.slice none 0 0, .int .i64 3]) ∧ Below w.heap.size w w' := by
  go_enter Tryd.func73, Tryd.ntmps73
  go_wp2_with fail
  refine (HeadA.right_any m n o _).mono ?_
  rintro e w1 ⟨rfl, hb1⟩
  obtain ⟨c0, c1, c2, hs, hb⟩ := box3 hb1
  clear hb1
  have hB := Lib.hid hb
  clear hb
  go_wp2_with fail
  go_ret2
  exact ⟨rfl, hB.out⟩

set_option maxHeartbeats 400000 in
theorem write_yes (m n : Int) (o : Bool) (w : World) (hr : HeadP.right m n o = true) (h0 : 0 ≤ n) (h1 : n ≤ 18446744073709551615) :
    Calls Tryd.prog 73 #[.agg #[.int .i64 m, .int .u64 n, .bool o]] w fun e w' =>
      ∃ v, e = .returned (.tuple #[v, .int .i64 0]) ∧ w'.ownsRow w.heap.size 5 1 v (HeadP.bytes m n o).length (u8s (HeadP.bytes m n o)) ∧ Below w.heap.size w w' := by
  have hl := HeadP.low_le n o h0
  have hf := HeadP.following_le (HeadP.low n o)
  have hm := HeadP.right_major m n o hr
  go_enter Tryd.func73, Tryd.ntmps73
  go_wp2_with fail
  refine (HeadA.right_any m n o _).mono ?_
  rintro e w1 ⟨rfl, hb1⟩
  obtain ⟨c0, c1, c2, hs, hb⟩ := box3 hb1
  clear hb1
  go_wp2_with fail
  refine (HeadA.lowBits_any m n o _ h0 h1).mono ?_
  rintro e w2 ⟨rfl, hb2⟩
  have d0 := cell_next c0 hb2 hs
  have d1 := cell_next c1 hb2 hs
  have hB2 := Lib.hid (below_next hb (by omega) hb2)
  have hs2 : w.heap.size < w2.heap.size := by have := hb2.size; omega
  clear hb hb2 c0 c1 c2
  go_wp2_with fail
  refine (HeadA.following_any _ _ hl.1 hl.2).mono ?_
  rintro e w3 ⟨rfl, rfl⟩
  generalize hF : HeadP.following (HeadP.low n o) = F at *
  obtain ⟨more, rfl⟩ := Int.eq_ofNat_of_zero_le hf.1
  have HF := Lib.hid hF
  clear hF
  obtain ⟨i0, hi, hz0, hz1, hz2⟩ := info_parts info_u8
  go_wp2_with (at_make; refine wpList_make_full _ rfl _ _ 23 rfl w.heap.size 5 i0 (.int .u8 0) 1 Tryd.underlying23 hi hz0 hz1 .i64 .i64 _ _ (1 + more) rfl rfl (by omega) (by omega) ?c1 ?c2 ?c3 ?_)
  case c1 => rw [hz2]; omega
  case c2 => unfold maxLen; omega
  case c3 => omega
  intro w4 hown hgrow
  have e0 := hgrow.cell d0 (by simp)
  have e1 := hgrow.cell d1 (by simp)
  have f0 := hown.cellAt 0 (by omega)
  have f1 := hown.frozenAt 0
  rw [toList_madeCells_one, show List.replicate (1 + more) (Value.int .u8 0) = u8s (HeadP.part 0 n more 0) from by simp [HeadP.part, HeadP.be, List.replicate_succ, Nat.add_comm 1 more]] at hown f0
  have HO := Lib.hid hown
  have HG := Lib.hid hgrow
  simp only [HeadP.part, u8s, List.map_cons, List.getElem?_cons_zero] at f0
  clear hown hgrow d0 d1
  go_wp2_with fail
  rw [Bt.or_head m _ hm.1 hm.2 hl.1 hl.2, show (m * 32 + HeadP.low n o) % 256 = m * 32 + HeadP.low n o from Int.emod_eq_of_lt (by omega) (by omega)]
  have hst := HO.out.stored 0 (.int .u8 (m * 32 + HeadP.low n o))
  rw [show (u8s (HeadP.part 0 n more 0)).set 0 (.int .u8 (m * 32 + HeadP.low n o)) = u8s (HeadP.part (m * 32 + HeadP.low n o) n more 0) from by simp [HeadP.part]] at hst
  have g1 : (w4.setCell ⟨w2.heap.size, 0, none⟩ (.int .u8 (m * 32 + HeadP.low n o))).cell? ⟨w.heap.size, 1, none⟩ = some (.int .u64 n) :=
    (World.cell?_setCell_other _ _ _ _ (fun e => by injection e with e1; omega)).trans e1
  have hB5 : Below w.heap.size w (w4.setCell ⟨w2.heap.size, 0, none⟩ (.int .u8 (m * 32 + HeadP.low n o))) :=
    (hB2.out.grown HG.out (by omega) (by simp)).setCell (p := ⟨w2.heap.size, 0, none⟩) (by simp; omega) _
  generalize (w4.setCell ⟨w2.heap.size, 0, none⟩ (.int .u8 (m * 32 + HeadP.low n o))) = w5 at *
  have hBw := hs2
  generalize w2.heap.size = B at *
  clear e0 e1 f1 f0 HO HG hB2
  have hsz : w.heap.size < w5.heap.size := by have := (hst.1.lt B rfl).2; omega
  obtain ⟨hown, _⟩ := hst
  generalize hf0 : m * 32 + HeadP.low n o = f at *
  have hF0 := Lib.hid hf0
  clear hf0 hs2 hs
  go_loopw [27] (fun i wr => ∃ k : Nat, k ≤ more ∧ i = .int .i64 k ∧ Hid (wr.ownsRow w.heap.size 5 1 (.slice (some ⟨B, 0, none⟩) (1 + more) (1 + more)) (1 + more) (u8s (HeadP.part f n more k))) ∧
      wr.cell? ⟨w.heap.size, 1, none⟩ = some (.int .u64 n) ∧ Below w.heap.size w wr) (fun i _ => more - (intOf i).toNat)
  case atStart => exact ⟨0, Nat.zero_le _, rfl, hown, g1, hB5⟩
  case round =>
    obtain ⟨k, hk, rfl, ho, hc1, hbl⟩ := hrel
    clear hown g1 hB5 hsz
    have hB := Lib.hid hbl
    clear hbl
    by_cases hlt : k < more
    · have q0 : wr.cell? ⟨B, more - k, none⟩ = some (.int .u8 ((HeadP.part f n more k).getD (more - k) 0)) := by
        rw [ho.out.cellAt (more - k) (by omega)]
        have hll := HeadP.part_length f n more k hk
        simp [List.getElem?_eq_getElem (show more - k < (HeadP.part f n more k).length by omega)]
      have q1 := ho.out.frozenAt (more - k)
      go_wp2_with fail
      refine ⟨⟨k + 1, hlt, by go_num, ?_, ?_, ?_⟩, by simp [intOf]; omega⟩
      · have hs := (ho.out.stored (more - k) (.int .u8 (n / 2 ^ (8 * k) % 256))).1
        rw [show (u8s (HeadP.part f n more k)).set (more - k) (.int .u8 (n / 2 ^ (8 * k) % 256)) = u8s (HeadP.part f n more (k + 1)) from by rw [← HeadP.part_set f n more k hlt]; simp [u8s, List.map_set]] at hs
        exact hs
      · exact (World.cell?_setCell_other _ _ _ _ (fun e => by injection e with e1; omega)).trans hc1
      · exact hB.out.setCell (p := ⟨B, more - k, none⟩) (by simp; omega) _
    · obtain rfl : k = more := by omega
      go_wp2_with fail
      go_ret2
      refine ⟨_, rfl, ?_, hB.out⟩
      rw [HeadP.bytes_part, hF0.out, HF.out]
      have hll := HeadP.part_length f n k k (Nat.le_refl _)
      simp only [Int.toNat_natCast, hll]
      exact ho.out

end Go.Proofs.YtoieadbifhealaaDoor.HeadW
