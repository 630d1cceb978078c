/- The statement EidTexts: its walk. -/
import Derived.Test.YtoieadbifhealaaDoorAlive04
import Derived.Test.YtoieadbifhealaaDoorEidBackP
import Derived.Test.YtoieadbifhealaaDoorEidEq
import Derived.Deep.CutBlock
namespace Go.Proofs.YtoieadbifhealaaDoor.Eid
open Go.RowKit Wd
theorem text_size (x : Nm) (hx : x.ok) (h : right x = true) : (textOf x).size ≤ 2100 := by
  unfold textOf
  by_cases h0 : kd x = 0
  · rw [if_pos h0]; decide
  · by_cases h1 : kd x = 1
    · rw [if_neg h0, if_pos h1]
      have := dec_size x.node hx.n0 hx.n1
      have := dec_size x.service hx.s0 hx.s1
      simp only [ByteArray.size_append]
      show 4 + (dec x.node).size + 1 + (dec x.service).size ≤ 2100
      omega
    · rw [if_neg h0, if_neg h1]
      obtain ⟨k1, k2⟩ := right_texts x h h0 h1
      simp only [ByteArray.size_append, path_size]
      show 4 + (2 + x.host.size + 1 + x.demux.size) ≤ 2100
      omega
theorem blank_size (t : ByteArray) : (t ++ (⟨#[32]⟩ : ByteArray)).size = t.size + 1 := by
  rw [ByteArray.size_append]
  rfl
theorem blank_any (t : ByteArray) (ht : t.size ≤ 3000) (w' : World) (g : Gl w') : Calls Tryd.prog 38 #[.string (t ++ ⟨#[32]⟩)] w' fun e w1 => ∃ i n s h d, e = .returned (.tuple #[.agg #[.bool i, .int .u64 n, .int .u64 s, .string h, .string d], .int .i64 3]) ∧ Below w'.heap.size w' w1 := by
  have hE : parseE (t ++ ⟨#[32]⟩) = 3 := parse_blank _ (by rw [dlist]; exact List.mem_append_right _ (List.mem_singleton.2 rfl))
  have hs : (t ++ (⟨#[32]⟩ : ByteArray)).size ≤ 4294967280 := by rw [blank_size]; omega
  generalize t ++ (⟨#[32]⟩ : ByteArray) = u at *
  refine (parse_any u hs w' g).mono ?_
  rintro e w1 ⟨rfl, hb⟩
  rw [hE]
  exact ⟨_, _, _, _, _, rfl, hb⟩
end Go.Proofs.YtoieadbifhealaaDoor.Eid
namespace Go.Proofs.YtoieadbifhealaaDoor.EidTexts
open Go.RowKit Wd Eid
attribute [local go_sem ↓ high] Eid.run_nm

/-- The cells of two names. -/
abbrev C2 (w : World) (g : Nat) (x y : Nm) : Prop :=
  (w.cell? ⟨g, 0, none⟩ = some (.bool x.ipn) ∧ w.cell? ⟨g, 1, none⟩ = some (.int .u64 x.node) ∧ w.cell? ⟨g, 2, none⟩ = some (.int .u64 x.service) ∧ w.cell? ⟨g, 3, none⟩ = some (.string x.host) ∧ w.cell? ⟨g, 4, none⟩ = some (.string x.demux)) ∧
  (w.cell? ⟨g + 1, 0, none⟩ = some (.bool y.ipn) ∧ w.cell? ⟨g + 1, 1, none⟩ = some (.int .u64 y.node) ∧ w.cell? ⟨g + 1, 2, none⟩ = some (.int .u64 y.service) ∧ w.cell? ⟨g + 1, 3, none⟩ = some (.string y.host) ∧ w.cell? ⟨g + 1, 4, none⟩ = some (.string y.demux))

set_option maxRecDepth 100000 in
set_option maxHeartbeats 4000000 in
theorem walk (x y : Nm) (m : ByteArray) (w : World) (hx : x.ok) (hy : y.ok) (hm : m.size ≤ maxLen) (G : Gl w) : Calls Tryd.prog 11 #[x.val, y.val, .string m] w fun e w' => e = .returned (.bool true) ∧ Below w.heap.size w w' := by
  have CRx := Lib.hid (fun w' => right_any x hx w')
  have CRy := Lib.hid (fun w' => right_any y hy w')
  have CA := Lib.hid (fun w' g => alive_any w' g)
  have HRS := Lib.hid (show right x = true → right y = true → (textOf x).size ≤ 2100 ∧ ((textOf x).toList == (textOf y).toList) = nmEq x y from fun h k => by
    refine ⟨text_size x hx h, ?_⟩
    rw [Bool.eq_iff_iff, nmEq_iff, beq_iff_eq]
    exact ⟨fun e => text_inj hx hy h k (toList_inj e), fun e => by rw [e]⟩)
  have CTx : Hid (right x = true → ∀ w', Gl w' → Calls Tryd.prog 29 #[x.val] w' fun e w1 => e = .returned (.tuple #[.string (textOf x), .int .i64 0]) ∧ Below w'.heap.size w' w1) := Lib.hid (fun h w' g => by
    have c := text_any x hx w' g
    rw [h] at c
    exact c)
  have CTy : Hid (right y = true → ∀ w', Gl w' → Calls Tryd.prog 29 #[y.val] w' fun e w1 => e = .returned (.tuple #[.string (textOf y), .int .i64 0]) ∧ Below w'.heap.size w' w1) := Lib.hid (fun h w' g => by
    have c := text_any y hy w' g
    rw [h] at c
    exact c)
  have CP := Lib.hid blank_any
  have HG := Lib.hid G
  clear hx hy G
  have HC0 := Lib.hid (fun (W : World) (h : Below ((w.alloc (.cells x.cells 51)).alloc (.cells y.cells 51)).heap.size ((w.alloc (.cells x.cells 51)).alloc (.cells y.cells 51)) W) => show C2 W w.heap.size x y from by
    have k1 := (Blk.new w 51 x.cells).alloc (.cells y.cells 51)
    have k2 := Blk.new (w.alloc (.cells x.cells 51)) 51 y.cells
    simp only [World.size_alloc] at k2
    exact ⟨cells5 (k1.next h), cells5 (k2.next h)⟩)
  have HB := Lib.hid (((Below.refl w.heap.size w).alloc (Nat.le_refl _) (.cells x.cells 51)).alloc (by simp) (.cells y.cells 51))
  generalize hrx : right x = rx at *
  generalize hry : right y = ry at *
  generalize hq : nmEq x y = q at *
  generalize textOf x = tx at *
  generalize textOf y = ty at *
  clear hrx hry
  have HQE := Lib.hid hq
  clear hq
  obtain ⟨xi, xn, xs, xh, xd⟩ := x
  obtain ⟨yi, yn, ys, yh, yd⟩ := y
  go_enter Tryd.func11, Tryd.ntmps11
  go_upto_region 1 with (fail)
  generalize (w.alloc (.cells #[.bool xi, .int .u64 xn, .int .u64 xs, .string xh, .string xd] 51)).alloc (.cells #[.bool yi, .int .u64 yn, .int .u64 ys, .string yh, .string yd] 51) = W at *
  have HGW := Lib.hid (HG.out.below HB.out)
  have KC := Lib.hid (fun (W' : World) (hW : Below W.heap.size W W') => HC0.out W' hW)
  clear HG HC0
  have hAl : Hid (∀ W', Below W.heap.size W W' → Calls Tryd.prog 27 #[] W' fun e w1 => e = .returned (.bool true) ∧ Below w.heap.size w w1) := Lib.hid (fun W' hW => by
    refine (CA.out W' (HGW.out.below hW)).mono ?_
    rintro e w1 ⟨rfl, hb⟩
    exact ⟨rfl, below_next HB.out HB.out.size (below_next hW hW.size hb)⟩)
  obtain ⟨⟨x0, x1, x2, x3, x4⟩, ⟨y0, y1, y2, y3, y4⟩⟩ := KC.out W (Below.refl _ _)
  cases hS : decide (600 < wrap64 (wrap64 (wrap64 ((xh.size : Int) + xd.size) + yh.size) + yd.size))
  rotate_left
  · go_wp2_with fail
    refine (hAl.out W (Below.refl _ _)).mono ?_
    rintro e w1 ⟨rfl, hb⟩
    have HB1 := Lib.hid hb
    clear hb
    go_wp2_with fail
    go_ret
    exact ⟨rfl, HB1.out⟩
  · cases hM : decide (100 < (m.size : Int))
    rotate_left
    · go_wp2_with fail
      refine (hAl.out W (Below.refl _ _)).mono ?_
      rintro e w1 ⟨rfl, hb⟩
      have HB1 := Lib.hid hb
      clear hb
      go_wp2_with fail
      go_ret
      exact ⟨rfl, HB1.out⟩
    · have HM : Hid (m.size ≤ 100) := Lib.hid (by have := of_decide_eq_false hM; omega)
      go_wp2_with fail
      clear hS hM
      refine (CRx.out W).mono ?_
      rintro e w1 ⟨rfl, hb1⟩
      have HB1 := Lib.hid hb1
      clear hb1 x0 x1 x2 x3 x4 y0 y1 y2 y3 y4
      cases rx
      · go_wp2_with fail
        refine (hAl.out w1 HB1.out).mono ?_
        rintro e w1 ⟨rfl, hb⟩
        have HB1 := Lib.hid hb
        clear hb
        go_wp2_with fail
        go_ret
        exact ⟨rfl, HB1.out⟩
      · obtain ⟨⟨x0, x1, x2, x3, x4⟩, ⟨y0, y1, y2, y3, y4⟩⟩ := KC.out w1 HB1.out
        go_wp2_with fail
        refine (CRy.out w1).mono ?_
        rintro e w2 ⟨rfl, hb2⟩
        have HB2 := Lib.hid (below_next HB1.out HB1.out.size hb2)
        clear hb2 x0 x1 x2 x3 x4 y0 y1 y2 y3 y4
        cases ry
        · go_wp2_with fail
          refine (hAl.out w2 HB2.out).mono ?_
          rintro e w1 ⟨rfl, hb⟩
          have HB1 := Lib.hid hb
          clear hb
          go_wp2_with fail
          go_ret
          exact ⟨rfl, HB1.out⟩
        · obtain ⟨⟨x0, x1, x2, x3, x4⟩, ⟨y0, y1, y2, y3, y4⟩⟩ := KC.out w2 HB2.out
          have CTx' := Lib.hid (CTx.out (by first | rfl | trivial))
          have CTy' := Lib.hid (CTy.out (by first | rfl | trivial))
          have HRS' := Lib.hid (HRS.out (by first | rfl | trivial) (by first | rfl | trivial))
          clear HB1 CRx CRy CTx CTy HRS
          go_wp2_with fail
          refine (CTx'.out w2 (HGW.out.below HB2.out)).mono ?_
          rintro e w3 ⟨rfl, hb3⟩
          have HB3 := Lib.hid (below_next HB2.out HB2.out.size hb3)
          clear hb3 x0 x1 x2 x3 x4 y0 y1 y2 y3 y4
          obtain ⟨⟨x0, x1, x2, x3, x4⟩, ⟨y0, y1, y2, y3, y4⟩⟩ := KC.out w3 HB3.out
          go_wp2_with fail
          refine (CTy'.out w3 (HGW.out.below HB3.out)).mono ?_
          rintro e w4 ⟨rfl, hb4⟩
          have HB4 := Lib.hid (below_next HB3.out HB3.out.size hb4)
          clear hb4 x0 x1 x2 x3 x4 y0 y1 y2 y3 y4 CTx' CTy' HB2 HB3
          have c1 : ¬ 9223372036854775807 < tx.size + m.size := by have := HRS'.out.1; have := HM.out; omega
          have c2 : ¬ 9223372036854775807 < tx.size + m.size + 1 := by have := HRS'.out.1; have := HM.out; omega
          go_wp2_with fail
          refine (CP.out (tx ++ m) (by have := HRS'.out.1; have := HM.out; rw [ByteArray.size_append]; omega) w4 (HGW.out.below HB4.out)).mono ?_
          rintro e w5 ⟨pi, pn, ps, ph, pd, rfl, hb5⟩
          have HB5 := Lib.hid (below_next HB4.out HB4.out.size hb5)
          clear hb5 c1 c2 HB4 CP
          have HB6 := Lib.hid (HB5.out.alloc HB5.out.size (.cells #[.bool pi, .int .u64 pn, .int .u64 ps, .string ph, .string pd] 51))
          have HG6 := Lib.hid (HGW.out.below HB6.out)
          go_wp2_with fail
          refine (CA.out _ HG6.out).mono ?_
          rintro e w7 ⟨rfl, hb7⟩
          have HB7 := Lib.hid (below_next HB6.out HB6.out.size hb7)
          have HBE := Lib.hid (below_next HB.out HB.out.size HB7.out)
          clear hb7 HB6 HG6 CA HB5 HGW HB hAl
          obtain ⟨⟨x0, x1, x2, x3, x4⟩, ⟨y0, y1, y2, y3, y4⟩⟩ := KC.out w7 HB7.out
          have hqe := HQE.out
          have hte := HRS'.out.2
          have hqq : (q == q) = true := by simp
          go_wp2_with fail
          go_ret
          exact ⟨rfl, HBE.out⟩
end Go.Proofs.YtoieadbifhealaaDoor.EidTexts
