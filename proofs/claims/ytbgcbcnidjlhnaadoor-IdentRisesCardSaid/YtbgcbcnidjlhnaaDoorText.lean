/- The contract of eid.Text. -/
import Derived.Test.YtbgcbcnidjlhnaaDoorFmt
namespace Go.Proofs.YtbgcbcnidjlhnaaDoor.Eid
open Go.RowKit Wd

/-- A number's decimal text. -/
def dec (n : Int) : ByteArray := ⟨(Lib.decDigits n.toNat).toArray⟩
theorem dec_size (n : Int) (h0 : 0 ≤ n) (h1 : n ≤ 18446744073709551615) : (dec n).size ≤ 20 := by
  show (Lib.decDigits n.toNat).length ≤ 20
  rw [Lib.decDigits_length]
  by_cases h : n.toNat = 0
  · rw [h, Lib.nDigits_small (by omega)]; omega
  · have := Lib.numDigits_eq n.toNat (by omega) (by omega)
    split at this <;> omega
/-- A name's text. -/
def textOf (x : Nm) : ByteArray := if kd x = 0 then ⟨#[100, 116, 110, 58, 110, 111, 110, 101]⟩ else if kd x = 1 then (((⟨#[105, 112, 110, 58]⟩ : ByteArray) ++ dec x.node) ++ (⟨#[46]⟩ : ByteArray)) ++ dec x.service else (⟨#[100, 116, 110, 58]⟩ : ByteArray) ++ pathOf x.host x.demux
theorem right_texts (x : Nm) (h : right x = true) (h0 : kd x ≠ 0) (h1 : kd x ≠ 1) : x.host.size ≤ 1000 ∧ x.demux.size ≤ 1000 := by
  obtain ⟨i, n, s, a, b⟩ := x
  unfold kd at h0 h1
  unfold right at h
  cases i
  · simp only [Bool.false_eq_true, if_false] at h h0 h1
    by_cases hz : n = 0 ∧ s = 0 ∧ a.toList = [] ∧ b.toList = []
    · rw [if_pos hz] at h0; exact absurd rfl h0
    · rw [if_neg hz] at h
      simp only [Bool.and_eq_true, rt, mk, decide_eq_true_eq] at h
      refine ⟨?_, ?_⟩
      · show a.size ≤ 1000
        have := h.2.1.2.1
        omega
      · show b.size ≤ 1000
        have := h.2.2.1
        omega
  · exact absurd rfl h1
theorem path_size (h d : ByteArray) : (pathOf h d).size = 2 + h.size + 1 + d.size := by
  unfold pathOf
  simp only [ByteArray.size_append]
  rfl

set_option maxRecDepth 100000 in
set_option maxHeartbeats 4000000 in
theorem text_any (x : Nm) (hx : x.ok) (w : World) (G : Gl w) : Calls Tryd.prog 50 #[x.val] w fun e w' => e = .returned (.tuple #[.string (if right x then textOf x else ⟨#[]⟩), .int .i64 (if right x then 0 else 3)]) ∧ Below w.heap.size w w' := by
  have CK := Lib.hid (fun w' => kind_any x w')
  have CR := Lib.hid (fun w' => right_any x hx w')
  have CP := Lib.hid (fun h1 h2 w' => path_any x h1 h2 w')
  have HT := Lib.hid (show textOf x = if kd x = 0 then ⟨#[100, 116, 110, 58, 110, 111, 110, 101]⟩ else if kd x = 1 then (((⟨#[105, 112, 110, 58]⟩ : ByteArray) ++ dec x.node) ++ (⟨#[46]⟩ : ByteArray)) ++ dec x.service else (⟨#[100, 116, 110, 58]⟩ : ByteArray) ++ pathOf x.host x.demux from rfl)
  have HRT := Lib.hid (right_texts x)
  have HD1 := Lib.hid (dec_size x.node hx.n0 hx.n1)
  have HD2 := Lib.hid (dec_size x.service hx.s0 hx.s1)
  have HPS := Lib.hid (path_size x.host x.demux)
  have HX := Lib.hid hx
  have CF1 : Hid (∀ w', Gl w' → Calls Tryd.prog 51 #[.int .u64 x.node, .int .i64 10] w' fun e w1 => e = .returned (.string (dec x.node)) ∧ Below w'.heap.size w' w1) := Lib.hid (fun w' g => by
    have h := format_any x.node.toNat (by have := hx.n1; omega) w' g
    rw [Int.toNat_of_nonneg hx.n0] at h
    exact h)
  have CF2 : Hid (∀ w', Gl w' → Calls Tryd.prog 51 #[.int .u64 x.service, .int .i64 10] w' fun e w1 => e = .returned (.string (dec x.service)) ∧ Below w'.heap.size w' w1) := Lib.hid (fun w' g => by
    have h := format_any x.service.toNat (by have := hx.s1; omega) w' g
    rw [Int.toNat_of_nonneg hx.s0] at h
    exact h)
  clear hx
  obtain ⟨i, n, s, h, d⟩ := x
  have HB := Lib.hid ((Below.refl w.heap.size w).alloc (Nat.le_refl _) (.cells #[.bool i, .int .u64 n, .int .u64 s, .string h, .string d] 24))
  have HK := Lib.hid (Blk.new w 24 #[.bool i, .int .u64 n, .int .u64 s, .string h, .string d])
  have HG := Lib.hid (G.below HB.out)
  generalize right ⟨i, n, s, h, d⟩ = r at *
  generalize textOf ⟨i, n, s, h, d⟩ = T at *
  generalize kd ⟨i, n, s, h, d⟩ = k at *
  go_enter Tryd.func50, Tryd.ntmps50
  go_wp2_with fail
  refine (CR.out _).mono ?_
  rintro e w1 ⟨rfl, hb1⟩
  have HB1 := Lib.hid (below_next HB.out (by simp) hb1)
  have HK1 := Lib.hid (HK.out.below hb1 HK.out.lt)
  have HG1 := Lib.hid (HG.out.below hb1)
  obtain ⟨c0, c1, c2, c3, c4⟩ := cells5 HK1.out
  clear hb1 HK HB HG
  cases r
  · simp only [Bool.false_eq_true, if_false]
    go_wp2_with fail
    go_ret2
    exact ⟨rfl, HB1.out⟩
  · have HRT2 := Lib.hid (HRT.out rfl)
    clear HRT
    simp only [if_true]
    go_wp2_with fail
    refine (CK.out _).mono ?_
    rintro e w2 ⟨rfl, hb2⟩
    have HB2 := Lib.hid (below_next HB1.out HB1.out.size hb2)
    have HK2 := Lib.hid (HK1.out.below hb2 HK1.out.lt)
    have HG2 := Lib.hid (HG1.out.below hb2)
    clear c0 c1 c2 c3 c4
    obtain ⟨c0, c1, c2, c3, c4⟩ := cells5 HK2.out
    clear hb2 HK1 HB1 HG1
    by_cases k0 : k = 0
    · subst k0
      have HT2 := Lib.hid (show T = ⟨#[100, 116, 110, 58, 110, 111, 110, 101]⟩ by rw [HT.out]; rfl)
      go_wp2_with fail
      go_ret2
      exact ⟨by rw [HT2.out]; rfl, HB2.out⟩
    · have d0 : (k == 0) = false := by simpa using k0
      by_cases k1 : k = 1
      · have HT2 := Lib.hid (show T = (((⟨#[105, 112, 110, 58]⟩ : ByteArray) ++ dec n) ++ (⟨#[46]⟩ : ByteArray)) ++ dec s by rw [HT.out, if_neg k0, if_pos k1])
        subst k1
        clear HT HRT2
        replace CF1 : Hid (∀ w', Gl w' → Calls Tryd.prog 51 #[.int .u64 n, .int .i64 10] w' fun e w1 => e = .returned (.string (dec n)) ∧ Below w'.heap.size w' w1) := CF1
        replace CF2 : Hid (∀ w', Gl w' → Calls Tryd.prog 51 #[.int .u64 s, .int .i64 10] w' fun e w1 => e = .returned (.string (dec s)) ∧ Below w'.heap.size w' w1) := CF2
        replace HD1 : Hid ((dec n).size ≤ 20) := HD1
        replace HD2 : Hid ((dec s).size ≤ 20) := HD2
        generalize dec n = A at *
        generalize dec s = B at *
        have q1 : ¬ 9223372036854775807 < 4 + A.size := by have := HD1.out; omega
        have q2 : ¬ 9223372036854775807 < 4 + A.size + 1 := by have := HD1.out; omega
        have q3 : ¬ 9223372036854775807 < 4 + A.size + 1 + B.size := by have := HD1.out; have := HD2.out; omega
        clear c0 c1 c2 c3 c4 k0
        have KC := Lib.hid (fun (w' : World) (hW : Below w2.heap.size w2 w') => cells5 (HK2.out.below hW HK2.out.lt))
        have HGd := Lib.hid (HG2.out.below ((Below.refl w2.heap.size w2).drew))
        have HBd := Lib.hid ((Below.refl w2.heap.size w2).drew)
        go_wp2_with fail
        go_region_held3 (fun w' => w'.cell? ⟨w.heap.size, 0, none⟩ = some (.bool i) ∧ w'.cell? ⟨w.heap.size, 1, none⟩ = some (.int .u64 n) ∧ w'.cell? ⟨w.heap.size, 2, none⟩ = some (.int .u64 s) ∧ w'.cell? ⟨w.heap.size, 3, none⟩ = some (.string h) ∧ w'.cell? ⟨w.heap.size, 4, none⟩ = some (.string d))
          (first | with_reducible exact KC.out _ HBd.out | with_reducible exact KC.out _ HB3.out | with_reducible exact KC.out _ HB4.out | fail)
          (first | (go_at_call 51; (with_reducible refine (CF2.out w3 HG3.out).mono ?_); rintro e w4 ⟨rfl, hb4⟩; have HB4 := Lib.hid (below_next HB3.out HB3.out.size hb4); clear hb4) | (go_at_call 51; (with_reducible refine (CF1.out _ HGd.out).mono ?_); rintro e w3 ⟨rfl, hb3⟩; have HG3 := Lib.hid (HGd.out.below hb3); have HB3 := Lib.hid (below_next HBd.out HBd.out.size hb3); clear hb3) | fail)
        go_wp2_with fail
        go_ret2
        exact ⟨by rw [HT2.out]; rfl, below_next HB2.out HB2.out.size HB4.out⟩
      · have d1 : (k == 1) = false := by simpa using k1
        have HT2 := Lib.hid (show T = (⟨#[100, 116, 110, 58]⟩ : ByteArray) ++ pathOf h d by rw [HT.out, if_neg k0, if_neg k1])
        obtain ⟨z1, z2⟩ := HRT2.out k0 k1
        have CP2 := Lib.hid (CP.out z1 z2 w2)
        have q1 : ¬ 9223372036854775807 < 4 + (pathOf h d).size := by have e : (pathOf h d).size = _ := HPS.out; replace z1 : h.size ≤ 1000 := z1; replace z2 : d.size ≤ 1000 := z2; rw [e]; show ¬ 9223372036854775807 < 4 + (2 + h.size + 1 + d.size); omega
        clear k0 k1 HT z1 z2 CP HPS HRT2
        go_wp2_with fail
        refine CP2.out.mono ?_
        rintro e w3 ⟨rfl, hb3⟩
        have HB3 := Lib.hid (below_next HB2.out HB2.out.size hb3)
        clear hb3
        go_wp2_with fail
        go_ret2
        exact ⟨by rw [HT2.out]; rfl, HB3.out⟩
end Go.Proofs.YtbgcbcnidjlhnaaDoor.Eid
