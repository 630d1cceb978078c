/- The contract of the reference's Text. -/
import Derived.Test.YtoieadbifhealaaDoorRefDig
import Derived.Test.YtoieadbifhealaaDoorEidTexts
namespace Go.Proofs.YtoieadbifhealaaDoor.Eid
open Go.RowKit Wd Cb

theorem text_dtn (x : Nm) (h0 : kd x ≠ 0) (h1 : kd x ≠ 1) : textOf x = ((⟨#[100, 116, 110, 58, 47, 47]⟩ : ByteArray) ++ x.host) ++ (⟨#[47]⟩ : ByteArray) ++ x.demux := by
  unfold textOf
  rw [if_neg h0, if_neg h1]
  refine toList_inj ?_
  rw [Lib.toList_data, Lib.toList_data]
  simp only [dlist, path_list, List.append_assoc]
  rfl
theorem ba_dec (n : Int) : ba (Lib.decDigits n.toNat) = dec n := rfl

set_option maxRecDepth 100000 in
set_option maxHeartbeats 4000000 in
theorem text04_any (x : Nm) (hx : x.ok) (hr : right x = true) (w : World) : Calls Tryd.prog 35 #[x.val] w fun e w' => e = .returned (.string (textOf x)) ∧ Below w.heap.size w w' := by
  have CK : Hid (∀ w', Calls Tryd.prog 32 #[x.val] w' fun e w1 => e = .returned (.int .i64 (kd x)) ∧ Below w'.heap.size w' w1) := Lib.hid (fun w' => by
    have c := kind04_any x hx w'
    rw [rk_true hr] at c
    exact c)
  have HT := Lib.hid (show textOf x = if kd x = 0 then ⟨#[100, 116, 110, 58, 110, 111, 110, 101]⟩ else if kd x = 1 then (((⟨#[105, 112, 110, 58]⟩ : ByteArray) ++ dec x.node) ++ (⟨#[46]⟩ : ByteArray)) ++ dec x.service else (⟨#[100, 116, 110, 58]⟩ : ByteArray) ++ pathOf x.host x.demux from rfl)
  have HT3 := Lib.hid (text_dtn x)
  have HRT := Lib.hid (right_texts x hr)
  have HD1 := Lib.hid (dec_size x.node hx.n0 hx.n1)
  have HD2 := Lib.hid (dec_size x.service hx.s0 hx.s1)
  have CF1 : Hid (∀ w', Calls Tryd.prog 68 #[.int .u64 x.node] w' fun e w1 => e = .returned (.string (dec x.node)) ∧ Below w'.heap.size w' w1) := Lib.hid (fun w' => by
    have h := digits04_any x.node.toNat (by have := hx.n1; omega) w'
    rw [Int.toNat_of_nonneg hx.n0, ba_dec] at h
    exact h)
  have CF2 : Hid (∀ w', Calls Tryd.prog 68 #[.int .u64 x.service] w' fun e w1 => e = .returned (.string (dec x.service)) ∧ Below w'.heap.size w' w1) := Lib.hid (fun w' => by
    have h := digits04_any x.service.toNat (by have := hx.s1; omega) w'
    rw [Int.toNat_of_nonneg hx.s0, ba_dec] at h
    exact h)
  have HKC := Lib.hid (kd_cases x)
  clear hx hr
  obtain ⟨i, n, s, h, d⟩ := x
  have HB := Lib.hid ((Below.refl w.heap.size w).alloc (Nat.le_refl _) (.cells #[.bool i, .int .u64 n, .int .u64 s, .string h, .string d] 52))
  have HK := Lib.hid (Blk.new w 52 #[.bool i, .int .u64 n, .int .u64 s, .string h, .string d])
  replace HT : Hid (textOf ⟨i, n, s, h, d⟩ = if kd ⟨i, n, s, h, d⟩ = 0 then ⟨#[100, 116, 110, 58, 110, 111, 110, 101]⟩ else if kd ⟨i, n, s, h, d⟩ = 1 then (((⟨#[105, 112, 110, 58]⟩ : ByteArray) ++ dec n) ++ (⟨#[46]⟩ : ByteArray)) ++ dec s else (⟨#[100, 116, 110, 58]⟩ : ByteArray) ++ pathOf h d) := HT
  replace HT3 : Hid (kd ⟨i, n, s, h, d⟩ ≠ 0 → kd ⟨i, n, s, h, d⟩ ≠ 1 → textOf ⟨i, n, s, h, d⟩ = ((⟨#[100, 116, 110, 58, 47, 47]⟩ : ByteArray) ++ h) ++ (⟨#[47]⟩ : ByteArray) ++ d) := HT3
  replace HRT : Hid (kd ⟨i, n, s, h, d⟩ ≠ 0 → kd ⟨i, n, s, h, d⟩ ≠ 1 → h.size ≤ 1000 ∧ d.size ≤ 1000) := HRT
  replace CF1 : Hid (∀ w', Calls Tryd.prog 68 #[.int .u64 n] w' fun e w1 => e = .returned (.string (dec n)) ∧ Below w'.heap.size w' w1) := CF1
  replace CF2 : Hid (∀ w', Calls Tryd.prog 68 #[.int .u64 s] w' fun e w1 => e = .returned (.string (dec s)) ∧ Below w'.heap.size w' w1) := CF2
  replace HD1 : Hid ((dec n).size ≤ 20) := HD1
  replace HD2 : Hid ((dec s).size ≤ 20) := HD2
  generalize textOf ⟨i, n, s, h, d⟩ = T at *
  generalize kd ⟨i, n, s, h, d⟩ = k at *
  go_enter Tryd.func35, Tryd.ntmps35
  go_wp2_with fail
  refine (CK.out _).mono ?_
  rintro e w2 ⟨rfl, hb2⟩
  have HB2 := Lib.hid (below_next HB.out HB.out.size hb2)
  have HK2 := Lib.hid (HK.out.next hb2)
  obtain ⟨c0, c1, c2, c3, c4⟩ := cells5 HK2.out
  clear hb2 HK HB CK
  by_cases k0 : k = 0
  · subst k0
    have HT2 := Lib.hid (show T = ⟨#[100, 116, 110, 58, 110, 111, 110, 101]⟩ by rw [HT.out]; rfl)
    go_wp2_with fail
    go_ret
    exact ⟨by rw [HT2.out]; rfl, HB2.out⟩
  · have d0 : (k == 0) = false := by simpa using k0
    by_cases k1 : k = 1
    · have HT2 := Lib.hid (show T = (((⟨#[105, 112, 110, 58]⟩ : ByteArray) ++ dec n) ++ (⟨#[46]⟩ : ByteArray)) ++ dec s by rw [HT.out, if_neg k0, if_pos k1])
      subst k1
      clear HT HRT HT3
      generalize dec n = A at *
      generalize dec s = B at *
      have q1 : ¬ 9223372036854775807 < 4 + A.size := by have := HD1.out; omega
      have q2 : ¬ 9223372036854775807 < 4 + A.size + 1 := by have := HD1.out; omega
      have q3 : ¬ 9223372036854775807 < 4 + A.size + 1 + B.size := by have := HD1.out; have := HD2.out; omega
      clear c0 c1 c2 c3 c4 k0
      have KC := Lib.hid (fun (w' : World) (hW : Below w2.heap.size w2 w') => cells5 (HK2.out.below hW HK2.out.lt))
      have HBd := Lib.hid ((Below.refl w2.heap.size w2).drew)
      go_wp2_with fail
      go_region_held3 (fun w' => w'.cell? ⟨w.heap.size, 0, none⟩ = some (.bool i) ∧ w'.cell? ⟨w.heap.size, 1, none⟩ = some (.int .u64 n) ∧ w'.cell? ⟨w.heap.size, 2, none⟩ = some (.int .u64 s) ∧ w'.cell? ⟨w.heap.size, 3, none⟩ = some (.string h) ∧ w'.cell? ⟨w.heap.size, 4, none⟩ = some (.string d))
        (first | with_reducible exact KC.out _ HBd.out | with_reducible exact KC.out _ HB3.out | with_reducible exact KC.out _ HB4.out | fail)
        (first | (go_at_call 68; (with_reducible refine (CF2.out w3).mono ?_); rintro e w4 ⟨rfl, hb4⟩; have HB4 := Lib.hid (below_next HB3.out HB3.out.size hb4); clear hb4) | (go_at_call 68; (with_reducible refine (CF1.out _).mono ?_); rintro e w3 ⟨rfl, hb3⟩; have HB3 := Lib.hid (below_next HBd.out HBd.out.size hb3); clear hb3) | fail)
      go_wp2_with fail
      go_ret
      exact ⟨by rw [HT2.out]; rfl, below_next HB2.out HB2.out.size HB4.out⟩
    · have d1 : (k == 1) = false := by simpa using k1
      have HT2 := Lib.hid (HT3.out k0 k1)
      obtain ⟨z1, z2⟩ := HRT.out k0 k1
      have q1 : ¬ 9223372036854775807 < 6 + h.size := by omega
      have q2 : ¬ 9223372036854775807 < 6 + h.size + 1 := by omega
      have q3 : ¬ 9223372036854775807 < 6 + h.size + 1 + d.size := by omega
      clear k0 k1 HT HT3 HRT z1 z2
      go_wp2_with fail
      go_ret
      exact ⟨by rw [HT2.out]; rfl, HB2.out⟩
end Go.Proofs.YtoieadbifhealaaDoor.Eid
