/- The contract of ident.Text. -/
import Derived.Test.YtbgcbcnidjlhnaaDoorZm5
import Derived.Test.YtbgcbcnidjlhnaaDoorEidTexts
namespace Go.Proofs.YtbgcbcnidjlhnaaDoor.Eid
open Go.RowKit Wd Cb

set_option maxRecDepth 100000 in
set_option maxHeartbeats 4000000 in
theorem itext_any (x : Id) (hx : x.ok) (w : World) (G : Gl w) : Calls Tryd.prog 17 #[x.val] w fun e w' => e = .returned (.tuple #[.string (if iright x then itext x else ⟨#[]⟩), .int .i64 (if iright x then 0 else 3)]) ∧ Below w.heap.size w w' := by
  have CT := Lib.hid (fun w' g => text_any x.src hx.s w' g)
  have CR := Lib.hid (fun w' => iright_any x hx w')
  have HRR : Hid (right x.src = false → iright x = false) := Lib.hid (fun h => by unfold iright; rw [h]; rfl)
  have HTS := Lib.hid (fun hr => text_size x.src hx.s hr)
  have HD1 := Lib.hid (dec_size x.time hx.t0 hx.t1)
  have HD2 := Lib.hid (dec_size x.seq hx.q0 hx.q1)
  have CF1 : Hid (∀ w', Gl w' → Calls Tryd.prog 51 #[.int .u64 x.time, .int .i64 10] w' fun e w1 => e = .returned (.string (dec x.time)) ∧ Below w'.heap.size w' w1) := Lib.hid (fun w' g => by
    have h := format_any x.time.toNat (by have := hx.t1; omega) w' g
    rw [Int.toNat_of_nonneg hx.t0] at h
    exact h)
  have CF2 : Hid (∀ w', Gl w' → Calls Tryd.prog 51 #[.int .u64 x.seq, .int .i64 10] w' fun e w1 => e = .returned (.string (dec x.seq)) ∧ Below w'.heap.size w' w1) := Lib.hid (fun w' g => by
    have h := format_any x.seq.toNat (by have := hx.q1; omega) w' g
    rw [Int.toNat_of_nonneg hx.q0] at h
    exact h)
  have HT := Lib.hid (show itext x = (((textOf x.src ++ (⟨#[45]⟩ : ByteArray)) ++ dec x.time) ++ (⟨#[45]⟩ : ByteArray)) ++ dec x.seq from rfl)
  have HG := Lib.hid G
  clear hx G
  generalize itext x = T at *
  generalize iright x = ir at *
  generalize right x.src = r at *
  generalize textOf x.src = S at *
  generalize dec x.time = A at *
  generalize dec x.seq = B at *
  obtain ⟨⟨i, n, s, h, d⟩, t, q⟩ := x
  have HB := Lib.hid ((Below.refl w.heap.size w).alloc (Nat.le_refl _) (.cells #[.bool i, .int .u64 n, .int .u64 s, .string h, .string d, .int .u64 t, .int .u64 q] 26))
  have HK := Lib.hid (Blk.new w 26 #[.bool i, .int .u64 n, .int .u64 s, .string h, .string d, .int .u64 t, .int .u64 q])
  go_enter Tryd.func17, Tryd.ntmps17
  go_upto_region 1 with (fail)
  generalize w.alloc (.cells #[.bool i, .int .u64 n, .int .u64 s, .string h, .string d, .int .u64 t, .int .u64 q] 26) = W at *
  obtain ⟨c0, c1, c2, c3, c4, c5, c6⟩ := cells7 HK.out
  go_wp2_with fail
  refine (CT.out _ (HG.out.below HB.out)).mono ?_
  rintro e w1 ⟨rfl, hb1⟩
  have HB1 := Lib.hid (below_next HB.out HB.out.size hb1)
  have HK1 := Lib.hid (HK.out.next hb1)
  clear hb1 HK CT c0 c1 c2 c3 c4 c5 c6 HB
  cases r
  · have hir := HRR.out (by first | rfl | trivial)
    subst hir
    clear HRR HTS HT
    simp only [Bool.false_eq_true, if_false]
    go_wp2_with fail
    go_ret2
    exact ⟨rfl, HB1.out⟩
  · simp only [if_true]
    clear HRR
    have hts := HTS.out (by first | rfl | trivial)
    obtain ⟨c0, c1, c2, c3, c4, c5, c6⟩ := cells7 HK1.out
    go_wp2_with fail
    refine (CR.out _).mono ?_
    rintro e w2 ⟨rfl, hb2⟩
    have HB2 := Lib.hid (below_next HB1.out HB1.out.size hb2)
    have HK2 := Lib.hid (HK1.out.next hb2)
    have HG2 := Lib.hid (HG.out.below HB2.out)
    clear hb2 HK1 HB1 CR c0 c1 c2 c3 c4 c5 c6
    cases ir
    · clear HTS HT
      simp only [Bool.false_eq_true, if_false]
      go_wp2_with fail
      go_ret2
      exact ⟨rfl, HB2.out⟩
    · simp only [if_true]
      have q1 : ¬ 9223372036854775807 < S.size + 1 := by omega
      have q2 : ¬ 9223372036854775807 < S.size + 1 + A.size := by have := HD1.out; omega
      have q3 : ¬ 9223372036854775807 < S.size + 1 + A.size + 1 := by have := HD1.out; omega
      have q4 : ¬ 9223372036854775807 < S.size + 1 + A.size + 1 + B.size := by have := HD1.out; have := HD2.out; omega
      clear hts HTS
      have KC := Lib.hid (fun (w' : World) (hW : Below w2.heap.size w2 w') => show w'.cell? ⟨w.heap.size, 5, none⟩ = some (.int .u64 t) ∧ w'.cell? ⟨w.heap.size, 6, none⟩ = some (.int .u64 q) from ⟨(cells7 (HK2.out.next hW)).2.2.2.2.2.1, (cells7 (HK2.out.next hW)).2.2.2.2.2.2⟩)
      have HGd := Lib.hid (HG2.out.below ((Below.refl w2.heap.size w2).drew))
      have HBd := Lib.hid ((Below.refl w2.heap.size w2).drew)
      go_wp2_with fail
      go_region_held3 (fun w' => w'.cell? ⟨w.heap.size, 5, none⟩ = some (.int .u64 t) ∧ w'.cell? ⟨w.heap.size, 6, none⟩ = some (.int .u64 q))
        (first | with_reducible exact KC.out _ HBd.out | with_reducible exact KC.out _ HB3.out | with_reducible exact KC.out _ HB4.out | fail)
        (first | (go_at_call 51; (with_reducible refine (CF2.out w3 HG3.out).mono ?_); rintro e w4 ⟨rfl, hb4⟩; have HB4 := Lib.hid (below_next HB3.out HB3.out.size hb4); clear hb4) | (go_at_call 51; (with_reducible refine (CF1.out _ HGd.out).mono ?_); rintro e w3 ⟨rfl, hb3⟩; have HG3 := Lib.hid (HGd.out.below hb3); have HB3 := Lib.hid (below_next HBd.out HBd.out.size hb3); clear hb3) | fail)
      go_wp2_with fail
      go_ret2
      exact ⟨by rw [HT.out]; rfl, below_next HB2.out HB2.out.size HB4.out⟩
end Go.Proofs.YtbgcbcnidjlhnaaDoor.Eid
