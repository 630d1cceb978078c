/- The contract of the reference's Less. -/
import Derived.Test.YtbgcbcnidjlhnaaDoorRefKind
namespace Go.Proofs.YtbgcbcnidjlhnaaDoor.Eid
open Go.RowKit Wd Cb

theorem cmpB_less : ∀ (x y : List UInt8), Op.bytesLess x y = decide (Lib.compareBytes x y < 0)
  | [], [] => by simp [Op.bytesLess, Lib.compareBytes]
  | [], _ :: _ => by simp [Op.bytesLess, Lib.compareBytes]
  | _ :: _, [] => by simp [Op.bytesLess, Lib.compareBytes]
  | a :: x, b :: y => by
    have ih := cmpB_less x y
    simp only [Op.bytesLess, Lib.compareBytes, ih, UInt8.lt_iff_toNat_lt]
    by_cases h1 : a.toNat < b.toNat
    · rw [if_pos h1, decide_eq_true h1]; rfl
    · rw [if_neg h1, decide_eq_false h1]
      by_cases h2 : b.toNat < a.toNat
      · rw [if_pos h2]
        have : (a == b) = false := by rw [beq_eq_false_iff_ne]; rintro rfl; omega
        rw [this]; rfl
      · rw [if_neg h2]
        have : a = b := UInt8.toNat_inj.1 (by omega)
        subst this
        simp
theorem ord_is (x y : Nm) : ord x y = or1 [Lib.compareInt (kd x) (kd y), Lib.compareInt x.node y.node, Lib.compareInt x.service y.service, Lib.compareBytes x.host.toList y.host.toList, Lib.compareBytes x.demux.toList y.demux.toList] := by
  simp only [Lib.toList_data]
  rfl
theorem ord_kd {x y : Nm} (h : kd x ≠ kd y) : decide (ord x y < 0) = decide (kd x < kd y) := by
  rw [ord_is, or1_take (fun e => h ((cmpI_zero _ _).1 e))]
  exact decide_eq_decide.2 (cmpI_neg _ _)
theorem ord_node {x y : Nm} (h0 : kd x = kd y) (h : x.node ≠ y.node) : decide (ord x y < 0) = decide (x.node < y.node) := by
  rw [ord_is, or1_skip ((cmpI_zero _ _).2 h0), or1_take (fun e => h ((cmpI_zero _ _).1 e))]
  exact decide_eq_decide.2 (cmpI_neg _ _)
theorem ord_service {x y : Nm} (h0 : kd x = kd y) (h1 : x.node = y.node) (h : x.service ≠ y.service) : decide (ord x y < 0) = decide (x.service < y.service) := by
  rw [ord_is, or1_skip ((cmpI_zero _ _).2 h0), or1_skip ((cmpI_zero _ _).2 h1), or1_take (fun e => h ((cmpI_zero _ _).1 e))]
  exact decide_eq_decide.2 (cmpI_neg _ _)
theorem ord_host {x y : Nm} (h0 : kd x = kd y) (h1 : x.node = y.node) (h2 : x.service = y.service) (h : x.host.toList ≠ y.host.toList) : decide (ord x y < 0) = Op.bytesLess x.host.toList y.host.toList := by
  rw [ord_is, or1_skip ((cmpI_zero _ _).2 h0), or1_skip ((cmpI_zero _ _).2 h1), or1_skip ((cmpI_zero _ _).2 h2), or1_take (fun e => h (bytes_zero e)), cmpB_less]
theorem ord_demux {x y : Nm} (h0 : kd x = kd y) (h1 : x.node = y.node) (h2 : x.service = y.service) (h3 : x.host.toList = y.host.toList) : decide (ord x y < 0) = Op.bytesLess x.demux.toList y.demux.toList := by
  rw [ord_is, or1_skip ((cmpI_zero _ _).2 h0), or1_skip ((cmpI_zero _ _).2 h1), or1_skip ((cmpI_zero _ _).2 h2), h3, or1_skip (cmp_self _), or1_one, cmpB_less]

set_option maxRecDepth 100000 in
set_option maxHeartbeats 4000000 in
theorem less04_any (x y : Nm) (w : World) : Calls Tryd.prog 57 #[x.val, y.val] w fun e w' => e = .returned (.bool (decide (ord x y < 0))) ∧ Below w.heap.size w w' := by
  have C1 := Lib.hid (fun w' => class_any x w')
  have C2 := Lib.hid (fun w' => class_any y w')
  have H0 := Lib.hid (@ord_kd x y)
  have H1 := Lib.hid (@ord_node x y)
  have H2 := Lib.hid (@ord_service x y)
  have H3 := Lib.hid (@ord_host x y)
  have H4 := Lib.hid (@ord_demux x y)
  have HB := Lib.hid (((Below.refl w.heap.size w).alloc (Nat.le_refl _) (.cells x.cells 34)).alloc (by simp) (.cells y.cells 34))
  have HC := Lib.hid (fun (W : World) (h : Below ((w.alloc (.cells x.cells 34)).alloc (.cells y.cells 34)).heap.size ((w.alloc (.cells x.cells 34)).alloc (.cells y.cells 34)) W) =>
    show (W.cell? ⟨w.heap.size, 0, none⟩ = some (.bool x.ipn) ∧ W.cell? ⟨w.heap.size, 1, none⟩ = some (.int .u64 x.node) ∧ W.cell? ⟨w.heap.size, 2, none⟩ = some (.int .u64 x.service) ∧ W.cell? ⟨w.heap.size, 3, none⟩ = some (.string x.host) ∧ W.cell? ⟨w.heap.size, 4, none⟩ = some (.string x.demux)) ∧
      (W.cell? ⟨w.heap.size + 1, 0, none⟩ = some (.bool y.ipn) ∧ W.cell? ⟨w.heap.size + 1, 1, none⟩ = some (.int .u64 y.node) ∧ W.cell? ⟨w.heap.size + 1, 2, none⟩ = some (.int .u64 y.service) ∧ W.cell? ⟨w.heap.size + 1, 3, none⟩ = some (.string y.host) ∧ W.cell? ⟨w.heap.size + 1, 4, none⟩ = some (.string y.demux)) from by
    have k1 := (Blk.new w 34 x.cells).alloc (.cells y.cells 34)
    have k2 := Blk.new (w.alloc (.cells x.cells 34)) 34 y.cells
    simp only [World.size_alloc] at k2
    exact ⟨cells5 (k1.next h), cells5 (k2.next h)⟩)
  generalize hkx : kd x = kx at *
  generalize hky : kd y = ky at *
  generalize ord x y = od at *
  clear hkx hky
  obtain ⟨i1, n1, s1, h1, d1⟩ := x
  obtain ⟨i2, n2, s2, h2, d2⟩ := y
  go_enter Tryd.func57, Tryd.ntmps57
  go_upto_region 1 with (fail)
  generalize (w.alloc (.cells #[.bool i1, .int .u64 n1, .int .u64 s1, .string h1, .string d1] 34)).alloc (.cells #[.bool i2, .int .u64 n2, .int .u64 s2, .string h2, .string d2] 34) = W at *
  have HBd := Lib.hid ((Below.refl W.heap.size W).drew)
  have HCd := Lib.hid (HC.out W (Below.refl _ _))
  obtain ⟨⟨x0, x1, x2, x3, x4⟩, ⟨y0, y1, y2, y3, y4⟩⟩ := HCd.out
  go_region_held3 (fun w' => (w'.cell? ⟨w.heap.size, 0, none⟩ = some (.bool i1) ∧ w'.cell? ⟨w.heap.size, 1, none⟩ = some (.int .u64 n1) ∧ w'.cell? ⟨w.heap.size, 2, none⟩ = some (.int .u64 s1) ∧ w'.cell? ⟨w.heap.size, 3, none⟩ = some (.string h1) ∧ w'.cell? ⟨w.heap.size, 4, none⟩ = some (.string d1)) ∧
      (w'.cell? ⟨w.heap.size + 1, 0, none⟩ = some (.bool i2) ∧ w'.cell? ⟨w.heap.size + 1, 1, none⟩ = some (.int .u64 n2) ∧ w'.cell? ⟨w.heap.size + 1, 2, none⟩ = some (.int .u64 s2) ∧ w'.cell? ⟨w.heap.size + 1, 3, none⟩ = some (.string h2) ∧ w'.cell? ⟨w.heap.size + 1, 4, none⟩ = some (.string d2)))
    (first | with_reducible exact HC.out _ HBd.out | with_reducible exact HC.out _ HB1.out | with_reducible exact HC.out _ HB2.out | fail)
    (first | (go_at_call 87; (with_reducible refine (C2.out w1).mono ?_); rintro e w2 ⟨rfl, hb2⟩; have HB2 := Lib.hid (below_next HB1.out HB1.out.size hb2); clear hb2) | (go_at_call 87; (with_reducible refine (C1.out _).mono ?_); rintro e w1 ⟨rfl, hb1⟩; have HB1 := Lib.hid (below_next HBd.out HBd.out.size hb1); clear hb1) | fail)
  have HE := Lib.hid (below_next HB.out HB.out.size HB2.out)
  obtain ⟨⟨x0, x1, x2, x3, x4⟩, ⟨y0, y1, y2, y3, y4⟩⟩ := HC.out _ HB2.out
  clear HB1 HB2 HBd HCd HC HB C1 C2
  by_cases e0 : kx = ky
  · have t0 : (kx != ky) = false := by simpa using e0
    by_cases e1 : n1 = n2
    · have t1 : (n1 != n2) = false := by simpa using e1
      by_cases e2 : s1 = s2
      · have t2 : (s1 != s2) = false := by simpa using e2
        cases e3 : (h1.toList == h2.toList)
        · have HR := Lib.hid (H3.out e0 e1 e2 (by simpa using e3))
          clear H0 H1 H2 H3 H4 e0 e1 e2
          go_wp2_with fail
          go_ret
          exact ⟨by rw [HR.out]; rfl, HE.out⟩
        · have HR := Lib.hid (H4.out e0 e1 e2 (by simpa using e3))
          clear H0 H1 H2 H3 H4 e0 e1 e2
          go_wp2_with fail
          go_ret
          exact ⟨by rw [HR.out]; rfl, HE.out⟩
      · have t2 : (s1 != s2) = true := by simpa using e2
        have HR := Lib.hid (H2.out e0 e1 e2)
        clear H0 H1 H2 H3 H4 e0 e1 e2
        go_wp2_with fail
        go_ret
        exact ⟨by rw [HR.out]; rfl, HE.out⟩
    · have t1 : (n1 != n2) = true := by simpa using e1
      have HR := Lib.hid (H1.out e0 e1)
      clear H0 H1 H2 H3 H4 e0 e1
      go_wp2_with fail
      go_ret
      exact ⟨by rw [HR.out]; rfl, HE.out⟩
  · have t0 : (kx != ky) = true := by simpa using e0
    have HR := Lib.hid (H0.out e0)
    clear H0 H1 H2 H3 H4 e0
    go_wp2_with fail
    go_ret
    exact ⟨by rw [HR.out]; rfl, HE.out⟩
end Go.Proofs.YtbgcbcnidjlhnaaDoor.Eid
