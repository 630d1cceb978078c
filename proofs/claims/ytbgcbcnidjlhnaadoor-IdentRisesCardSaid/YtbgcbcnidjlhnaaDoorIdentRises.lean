/- The statement IdentRises: its walk. -/
import Derived.Test.YtbgcbcnidjlhnaaDoorAlive05
import Derived.Test.YtbgcbcnidjlhnaaDoorIdEq
import Derived.Test.YtbgcbcnidjlhnaaDoorFrameU64s
import Derived.Deep.RegionHeld3
import Derived.Deep.LoopGhost
namespace Go.Proofs.YtbgcbcnidjlhnaaDoor.IdentRises
open Go.RowKit Wd Eid Cb
attribute [local go_sem ↓ high] Eid.run_id Eid.run_nm

theorem set7_only {w : World} {g k : Nat} {x : Eid.Id} {m : Bool} (h : Mk w g x m) (hn : g ≠ k) (a b c d e f l : Value) : Mk (set7 w k a b c d e f l) g x m := set7_far h hn a b c d e f l

set_option maxRecDepth 100000 in
set_option maxHeartbeats 8000000 in
theorem walk (s : Nm) (A : Option Addr) (c : Nat) (xs : List Int) (w : World) (hs : s.ok) (hc : xs.length ≤ c) (hm : c ≤ maxLen) (hl : Lst w w.heap.size A (Fr.u64s xs)) (hx : ∀ y ∈ xs, 0 ≤ y ∧ y ≤ 18446744073709551615) (G : Gl w) :
    Calls Tryd.prog 6 #[s.val, .slice A xs.length c] w fun e w' => e = .returned (.bool true) ∧ Below w.heap.size w w' := by
  have CA := Lib.hid (fun w' g => alive05_any w' g)
  have CN := Lib.hid (fun w' => new_any s hs w')
  have CR := Lib.hid (fun w' => right_any s hs w')
  have HQS := Lib.hid (nmEq_self s)
  have HG := Lib.hid G
  have HB := Lib.hid ((Below.refl w.heap.size w).alloc (Nat.le_refl _) (.cells s.cells 24))
  have HK := Lib.hid (Blk.new w 24 s.cells)
  have HLx := Lib.hid hl
  have HXB := Lib.hid hx
  unfold maxLen at hm
  clear hs hl hx G
  generalize right s = r at *
  have HRFL := Lib.hid (show ∀ X : Eid.Id, idEq X X = true from idEq_self)
  obtain ⟨si, sn, sv, sh, sd⟩ := s
  generalize hq : nmEq ⟨si, sn, sv, sh, sd⟩ zeroNm = q at *
  have HQZ := Lib.hid hq
  clear hq
  go_enter Tryd.func6, Tryd.ntmps6
  go_upto_region 1 with (fail)
  generalize w.alloc (.cells #[.bool si, .int .u64 sn, .int .u64 sv, .string sh, .string sd] 24) = W at *
  have HGW := Lib.hid (HG.out.below HB.out)
  have hAl : Hid (∀ W', Below W.heap.size W W' → Calls Tryd.prog 14 #[] W' fun e w1 => e = .returned (.bool true) ∧ Below W.heap.size W w1) := Lib.hid (fun W' hW => by
    refine (CA.out W' (HGW.out.below hW)).mono ?_
    rintro e w1 ⟨rfl, hb⟩
    exact ⟨rfl, below_next hW hW.size hb⟩)
  have KC := Lib.hid (fun (W' : World) (hW : Below W.heap.size W W') => cells5 (HK.out.next hW))
  have HBE : Hid (∀ W', Below W.heap.size W W' → Below w.heap.size w W') := Lib.hid (fun W' h => below_next HB.out HB.out.size h)
  clear HG HGW CA
  obtain ⟨c0, c1, c2, c3, c4⟩ := KC.out W (Below.refl _ _)
  go_wp2_with fail
  refine (CN.out W).mono ?_
  rintro e w1 ⟨hn, hb1⟩
  have HB1 := Lib.hid hb1
  clear c0 c1 c2 c3 c4 hb1 CN
  have hcs : (q = true ∨ (q = false ∧ r = false)) ∨ (q = false ∧ r = true) := by cases q <;> cases r <;> simp
  rcases hcs with hbad | ⟨rfl, rfl⟩
  · have hn' : e = .returned (.tuple #[.pointer none, .int .i64 3]) := by
      rcases hbad with rfl | ⟨rfl, rfl⟩
      · simpa using hn
      · simpa using hn
    subst hn'
    clear hn
    have hq0 := HQZ.out
    go_wp2_with fail
    refine (hAl.out _ HB1.out).mono ?_
    rintro e w2 ⟨rfl, hb2⟩
    have HB2 := Lib.hid hb2
    obtain ⟨c0, c1, c2, c3, c4⟩ := KC.out w2 hb2
    clear hb2
    go_wp2_with fail
    refine (CR.out _).mono ?_
    rintro e w3 ⟨rfl, hb3⟩
    have HB3 := Lib.hid (below_next HB2.out HB2.out.size hb3)
    clear c0 c1 c2 c3 c4 hb3
    obtain ⟨c0, c1, c2, c3, c4⟩ := KC.out w3 HB3.out
    rcases hbad with rfl | ⟨rfl, rfl⟩
    · cases r
      · go_wp2_with fail
        go_ret
        exact ⟨rfl, HBE.out _ HB3.out⟩
      · go_wp2_with fail
        go_ret
        exact ⟨rfl, HBE.out _ HB3.out⟩
    · go_wp2_with fail
      go_ret
      exact ⟨rfl, HBE.out _ HB3.out⟩
  · simp only [Bool.false_or, Bool.not_true, Bool.false_eq_true, if_false] at hn
    obtain ⟨g, rfl, hg, hmk⟩ := hn
    have HM1 := Lib.hid hmk
    clear hmk HQZ
    go_wp2_with fail
    refine (last_any g _ w1 HM1.out).mono ?_
    rintro e w2 ⟨rfl, hb2⟩
    have HB2 := Lib.hid (below_next HB1.out HB1.out.size hb2)
    have HM2 := Lib.hid (HM1.out.next hb2)
    have HL3 := Lib.hid (Blk.new w2 26 #[.bool si, .int .u64 sn, .int .u64 sv, .string sh, .string sd, .int .u64 0, .int .u64 0])
    have HM3 : Hid (Mk (w2.alloc (.cells #[.bool si, .int .u64 sn, .int .u64 sv, .string sh, .string sd, .int .u64 0, .int .u64 0] 26)) g ⟨⟨si, sn, sv, sh, sd⟩, 0, 0⟩ true) := Lib.hid (Blk.alloc HM2.out _)
    have HB3 := Lib.hid (HB2.out.alloc HB2.out.size (.cells #[.bool si, .int .u64 sn, .int .u64 sv, .string sh, .string sd, .int .u64 0, .int .u64 0] 26))
    have HLT := Lib.hid (show g < w2.heap.size ∧ W.heap.size ≤ w2.heap.size from ⟨HM2.out.lt, HB2.out.size⟩)
    clear hb2 HM1 HB1 HM2 HB2
    go_upto_region 5 with (fail)
    generalize w2.alloc (.cells #[.bool si, .int .u64 sn, .int .u64 sv, .string sh, .string sd, .int .u64 0, .int .u64 0] 26) = W3 at *
    generalize w2.heap.size = gl at *
    go_wp2_with fail
    go_loopw [8] (fun i wr => ∃ (k : Nat) (t q : Int), k ≤ xs.length ∧ k ≤ 200 ∧ i = .int .i64 k ∧ 0 ≤ q ∧ q ≤ k ∧ Hid (Mk wr g ⟨⟨si, sn, sv, sh, sd⟩, t, q⟩ true) ∧ Hid (Blk wr gl 26 #[.bool si, .int .u64 sn, .int .u64 sv, .string sh, .string sd, .int .u64 t, .int .u64 q]) ∧ Hid (Below W.heap.size W wr)) (fun i _ => xs.length - (intOf i).toNat)
    case atStart => exact ⟨0, 0, 0, by omega, by omega, rfl, by omega, by omega, HM3, HL3, HB3⟩
    case round =>
      obtain ⟨k, t, q, hk, hk2, rfl, q0, q1, HM, HL, HW⟩ := hrel
      clear HM3 HL3 HB3
      by_cases hlt : k < xs.length ∧ k < 200
      rotate_left
      · have HX : Hid (Below W.heap.size W wr) := Lib.hid HW.out
        clear HM HL HW
        by_cases h1 : k < xs.length
        · obtain rfl : k = 200 := by omega
          have d1 : decide (((200 : Nat) : Int) < (xs.length : Int)) = true := decide_eq_true (by omega)
          go_wp2_with fail
          refine (hAl.out _ HX.out).mono ?_
          rintro e w9 ⟨rfl, hb⟩
          have HBf := Lib.hid hb
          clear hb
          go_wp2_with fail
          go_ret
          exact ⟨rfl, HBE.out _ HBf.out⟩
        · have d1 : decide ((k : Int) < (xs.length : Int)) = false := decide_eq_false (by omega)
          go_wp2_with fail
          refine (hAl.out _ HX.out).mono ?_
          rintro e w9 ⟨rfl, hb⟩
          have HBf := Lib.hid hb
          clear hb
          go_wp2_with fail
          go_ret
          exact ⟨rfl, HBE.out _ HBf.out⟩
      · obtain ⟨i1, i2⟩ := hlt
        obtain ⟨b, o, rfl, hb, hcell⟩ := Fr.u64s_at HLx.out i1
        have KH := Lib.hid (fun (W' : World) (hW : Below W.heap.size W W') => ((HBE.out W' hW).cell (p := ⟨b, o + k, none⟩) hb).trans hcell)
        have HNB := Lib.hid (HXB.out _ (List.getElem_mem i1))
        clear hcell
        generalize xs[k] = now at *
        have j0 : (0 : Int) ≤ (k : Int) := by omega
        have j1 : (k : Int) < (xs.length : Int) := by omega
        have j2 : (k : Int) < 200 := by omega
        have kc := KH.out wr HW.out
        have CX := Lib.hid (next_any g ⟨⟨si, sn, sv, sh, sd⟩, t, q⟩ now wr HM.out q0)
        by_cases h1 : 1099511627776 < now
        · have hp : inext ⟨⟨si, sn, sv, sh, sd⟩, t, q⟩ now = (⟨⟨si, sn, sv, sh, sd⟩, t, q⟩, 1) := by unfold inext; rw [if_pos h1]
          rw [hp] at CX
          clear hp
          have d1 : decide (1099511627776 < now) = true := decide_eq_true h1
          have CXX : Hid (Calls Tryd.prog 29 #[.pointer (some ⟨g, 0, none⟩), .int .u64 now] wr fun e w' => e = .returned (.tuple #[.agg #[.bool false, .int .u64 0, .int .u64 0, .string ⟨#[]⟩, .string ⟨#[]⟩, .int .u64 0, .int .u64 0], .int .i64 1]) ∧ Mk w' g ⟨⟨si, sn, sv, sh, sd⟩, t, q⟩ true ∧ wr.grownBy w' (some g)) := CX
          clear CX
          go_wp2_with fail
          refine CXX.out.mono ?_
          rintro e w4 ⟨rfl, hm4, ho4⟩
          have HW4 := Lib.hid (below_only HW.out ho4 hg HW.out.size)
          have HM5 : Hid (Mk (w4.alloc (.cells #[.bool false, .int .u64 0, .int .u64 0, .string ⟨#[]⟩, .string ⟨#[]⟩, .int .u64 0, .int .u64 0] 26)) g ⟨⟨si, sn, sv, sh, sd⟩, t, q⟩ true) := Lib.hid (Blk.alloc hm4 _)
          have HL5 := Lib.hid ((blk_only HL.out ho4 (Nat.ne_of_gt HLT.out.1)).alloc (.cells #[.bool false, .int .u64 0, .int .u64 0, .string ⟨#[]⟩, .string ⟨#[]⟩, .int .u64 0, .int .u64 0] 26))
          have HW5 := Lib.hid (HW4.out.alloc HW4.out.size (.cells #[.bool false, .int .u64 0, .int .u64 0, .string ⟨#[]⟩, .string ⟨#[]⟩, .int .u64 0, .int .u64 0] 26))
          clear hm4 ho4 kc HW4 HM HL HW CXX
          go_upto_region 9 with (fail)
          generalize w4.alloc (.cells #[.bool false, .int .u64 0, .int .u64 0, .string ⟨#[]⟩, .string ⟨#[]⟩, .int .u64 0, .int .u64 0] 26) = W5 at *
          have kc := KH.out W5 HW5.out
          go_upto_region 10 with (fail)
          have HBd := Lib.hid (Below.refl W5.heap.size W5).drew
          have KL := Lib.hid (fun (W' : World) (h : Below W5.heap.size W5 W') => cells7 (HL5.out.next h))
          have CLA := Lib.hid (fun (W' : World) (h : Below W5.heap.size W5 W') => last_any g ⟨⟨si, sn, sv, sh, sd⟩, t, q⟩ W' (Mk.next HM5.out h))
          have hrf := HRFL.out ⟨⟨si, sn, sv, sh, sd⟩, t, q⟩
          go_region_held3 (fun w' => w'.cell? ⟨gl, 0, none⟩ = some (.bool si) ∧ w'.cell? ⟨gl, 1, none⟩ = some (.int .u64 sn) ∧ w'.cell? ⟨gl, 2, none⟩ = some (.int .u64 sv) ∧ w'.cell? ⟨gl, 3, none⟩ = some (.string sh) ∧ w'.cell? ⟨gl, 4, none⟩ = some (.string sd) ∧ w'.cell? ⟨gl, 5, none⟩ = some (.int .u64 t) ∧ w'.cell? ⟨gl, 6, none⟩ = some (.int .u64 q))
            (first | with_reducible exact KL.out _ HBd.out | with_reducible exact KL.out _ HB6.out | fail)
            (first | (go_at_call 31; (with_reducible refine (CLA.out _ HBd.out).mono ?_); rintro e w6 ⟨rfl, hb6⟩; have HB6 := Lib.hid (below_next HBd.out HBd.out.size hb6); clear hb6) | fail)
          have HM6 := Lib.hid (Mk.next HM5.out HB6.out)
          have HL6 := Lib.hid (HL5.out.next HB6.out)
          have HW6 := Lib.hid (below_next HW5.out HW5.out.size HB6.out)
          clear KL CLA HBd HB6 HM5 HL5 HW5 kc
          go_wp2_with fail
          go_roundw
          case rel => exact ⟨k + 1, t, q, by omega, by omega, by go_num, q0, by omega, HM6, HL6, HW6⟩
          case measure => simp [intOf]; omega
        · obtain ⟨t', q', hp, qa, qb, hnt, hl1, hl2⟩ : ∃ t' q', inext ⟨⟨si, sn, sv, sh, sd⟩, t, q⟩ now = (⟨⟨si, sn, sv, sh, sd⟩, t', q'⟩, 0) ∧ 0 ≤ q' ∧ q' ≤ ((k + 1 : Nat) : Int) ∧ now ≤ t' ∧ ils ⟨⟨si, sn, sv, sh, sd⟩, t, q⟩ ⟨⟨si, sn, sv, sh, sd⟩, t', q'⟩ = true ∧ ils ⟨⟨si, sn, sv, sh, sd⟩, t', q'⟩ ⟨⟨si, sn, sv, sh, sd⟩, t, q⟩ = false := by
            by_cases h2 : t < now
            · have hl : ils ⟨⟨si, sn, sv, sh, sd⟩, t, q⟩ ⟨⟨si, sn, sv, sh, sd⟩, now, 0⟩ = true := (ils_time (x := ⟨⟨si, sn, sv, sh, sd⟩, t, q⟩) (y := ⟨⟨si, sn, sv, sh, sd⟩, now, 0⟩) (by show t ≠ now; omega)).trans (decide_eq_true h2)
              refine ⟨now, 0, by unfold inext; rw [if_neg h1, if_pos h2], by omega, by omega, by omega, hl, ?_⟩
              have := ils_both ⟨⟨si, sn, sv, sh, sd⟩, t, q⟩ ⟨⟨si, sn, sv, sh, sd⟩, now, 0⟩
              rw [hl] at this
              simpa using this
            · have hl : ils ⟨⟨si, sn, sv, sh, sd⟩, t, q⟩ ⟨⟨si, sn, sv, sh, sd⟩, t, q + 1⟩ = true := (ils_seq (x := ⟨⟨si, sn, sv, sh, sd⟩, t, q⟩) (y := ⟨⟨si, sn, sv, sh, sd⟩, t, q + 1⟩) rfl (by show q ≠ q + 1; omega)).trans (decide_eq_true (by show q < q + 1; omega))
              refine ⟨t, q + 1, by unfold inext; rw [if_neg h1, if_neg h2, if_neg (by show ¬ 1099511627776 ≤ q; omega)], by omega, by omega, by omega, hl, ?_⟩
              have := ils_both ⟨⟨si, sn, sv, sh, sd⟩, t, q⟩ ⟨⟨si, sn, sv, sh, sd⟩, t, q + 1⟩
              rw [hl] at this
              simpa using this
          rw [hp] at CX
          clear hp
          have d1 : decide (1099511627776 < now) = false := decide_eq_false h1
          have CXX : Hid (Calls Tryd.prog 29 #[.pointer (some ⟨g, 0, none⟩), .int .u64 now] wr fun e w' => e = .returned (.tuple #[.agg #[.bool si, .int .u64 sn, .int .u64 sv, .string sh, .string sd, .int .u64 t', .int .u64 q'], .int .i64 0]) ∧ Mk w' g ⟨⟨si, sn, sv, sh, sd⟩, t', q'⟩ true ∧ wr.grownBy w' (some g)) := CX
          clear CX
          go_wp2_with fail
          refine CXX.out.mono ?_
          rintro e w4 ⟨rfl, hm4, ho4⟩
          have HW4 := Lib.hid (below_only HW.out ho4 hg HW.out.size)
          have HM5 : Hid (Mk (w4.alloc (.cells #[.bool si, .int .u64 sn, .int .u64 sv, .string sh, .string sd, .int .u64 t', .int .u64 q'] 26)) g ⟨⟨si, sn, sv, sh, sd⟩, t', q'⟩ true) := Lib.hid (Blk.alloc hm4 _)
          have HL5 := Lib.hid ((blk_only HL.out ho4 (Nat.ne_of_gt HLT.out.1)).alloc (.cells #[.bool si, .int .u64 sn, .int .u64 sv, .string sh, .string sd, .int .u64 t', .int .u64 q'] 26))
          have HX5 := Lib.hid (Blk.new w4 26 #[.bool si, .int .u64 sn, .int .u64 sv, .string sh, .string sd, .int .u64 t', .int .u64 q'])
          have HW5 := Lib.hid (HW4.out.alloc HW4.out.size (.cells #[.bool si, .int .u64 sn, .int .u64 sv, .string sh, .string sd, .int .u64 t', .int .u64 q'] 26))
          have HNX := Lib.hid (show gl < w4.heap.size from Nat.lt_of_lt_of_le HL.out.lt ho4.size)
          clear hm4 ho4 kc HW4 HM HL HW CXX
          go_upto_region 9 with (fail)
          generalize w4.alloc (.cells #[.bool si, .int .u64 sn, .int .u64 sv, .string sh, .string sd, .int .u64 t', .int .u64 q'] 26) = W5 at *
          have kc := KH.out W5 HW5.out
          go_upto_region 12 with (fail)
          have HBd := Lib.hid (Below.refl W5.heap.size W5).drew
          have KL := Lib.hid (fun (W' : World) (h : Below W5.heap.size W5 W') => And.intro (cells7 (HL5.out.next h)) (And.intro (cells7 (HX5.out.next h)) (And.intro (KC.out W' (below_next HW5.out HW5.out.size h)) (KH.out W' (below_next HW5.out HW5.out.size h)))))
          have CLA := Lib.hid (fun (W' : World) (h : Below W5.heap.size W5 W') => last_any g ⟨⟨si, sn, sv, sh, sd⟩, t', q'⟩ W' (Mk.next HM5.out h))
          have CA1 : Hid (∀ W', Calls Tryd.prog 23 #[.agg #[.bool si, .int .u64 sn, .int .u64 sv, .string sh, .string sd, .int .u64 t, .int .u64 q], .agg #[.bool si, .int .u64 sn, .int .u64 sv, .string sh, .string sd, .int .u64 t', .int .u64 q']] W' fun e w' => e = .returned (.bool true) ∧ Below W'.heap.size W' w') := Lib.hid (fun W' => by
            have c := iahead_any ⟨⟨si, sn, sv, sh, sd⟩, t, q⟩ ⟨⟨si, sn, sv, sh, sd⟩, t', q'⟩ W'
            rw [hl1] at c
            exact c)
          have CA2 : Hid (∀ W', Calls Tryd.prog 23 #[.agg #[.bool si, .int .u64 sn, .int .u64 sv, .string sh, .string sd, .int .u64 t', .int .u64 q'], .agg #[.bool si, .int .u64 sn, .int .u64 sv, .string sh, .string sd, .int .u64 t, .int .u64 q]] W' fun e w' => e = .returned (.bool false) ∧ Below W'.heap.size W' w') := Lib.hid (fun W' => by
            have c := iahead_any ⟨⟨si, sn, sv, sh, sd⟩, t', q'⟩ ⟨⟨si, sn, sv, sh, sd⟩, t, q⟩ W'
            rw [hl2] at c
            exact c)
          have hrf := HRFL.out ⟨⟨si, sn, sv, sh, sd⟩, t', q'⟩
          have hqs := HQS.out
          have d2 : decide (t' < now) = false := decide_eq_false (by omega)
          clear hl1 hl2 hnt
          obtain ⟨⟨l0, l1, l2, l3, l4, l5, l6⟩, ⟨x0, x1, x2, x3, x4, x5, x6⟩, ⟨s0, s1, s2, s3, s4⟩, kc'⟩ := KL.out W5 (Below.refl _ _)
          go_region_held3 (fun w' => (w'.cell? ⟨gl, 0, none⟩ = some (.bool si) ∧ w'.cell? ⟨gl, 1, none⟩ = some (.int .u64 sn) ∧ w'.cell? ⟨gl, 2, none⟩ = some (.int .u64 sv) ∧ w'.cell? ⟨gl, 3, none⟩ = some (.string sh) ∧ w'.cell? ⟨gl, 4, none⟩ = some (.string sd) ∧ w'.cell? ⟨gl, 5, none⟩ = some (.int .u64 t) ∧ w'.cell? ⟨gl, 6, none⟩ = some (.int .u64 q)) ∧ (w'.cell? ⟨w4.heap.size, 0, none⟩ = some (.bool si) ∧ w'.cell? ⟨w4.heap.size, 1, none⟩ = some (.int .u64 sn) ∧ w'.cell? ⟨w4.heap.size, 2, none⟩ = some (.int .u64 sv) ∧ w'.cell? ⟨w4.heap.size, 3, none⟩ = some (.string sh) ∧ w'.cell? ⟨w4.heap.size, 4, none⟩ = some (.string sd) ∧ w'.cell? ⟨w4.heap.size, 5, none⟩ = some (.int .u64 t') ∧ w'.cell? ⟨w4.heap.size, 6, none⟩ = some (.int .u64 q')) ∧ (w'.cell? ⟨w.heap.size, 0, none⟩ = some (.bool si) ∧ w'.cell? ⟨w.heap.size, 1, none⟩ = some (.int .u64 sn) ∧ w'.cell? ⟨w.heap.size, 2, none⟩ = some (.int .u64 sv) ∧ w'.cell? ⟨w.heap.size, 3, none⟩ = some (.string sh) ∧ w'.cell? ⟨w.heap.size, 4, none⟩ = some (.string sd)) ∧ w'.cell? ⟨b, o + k, none⟩ = some (.int .u64 now))
            (first | with_reducible exact KL.out _ HBd.out | with_reducible exact KL.out _ HB6.out | with_reducible exact KL.out _ HB7.out | with_reducible exact KL.out _ HB8.out | fail)
            (first | (go_at_call 31; (with_reducible refine (CLA.out _ HB7.out).mono ?_); rintro e w8 ⟨rfl, hb8⟩; have HB8 := Lib.hid (below_next HB7.out HB7.out.size hb8); clear hb8) | (go_at_call 23; (with_reducible refine (CA2.out w6).mono ?_); rintro e w7 ⟨rfl, hb7⟩; have HB7 := Lib.hid (below_next HB6.out HB6.out.size hb7); clear hb7) | (go_at_call 23; (with_reducible refine (CA1.out _).mono ?_); rintro e w6 ⟨rfl, hb6⟩; have HB6 := Lib.hid (below_next HBd.out HBd.out.size hb6); clear hb6) | fail)
          have HM8 := Lib.hid (Mk.next HM5.out HB8.out)
          have HL8 := Lib.hid (HL5.out.next HB8.out)
          have HX8 := Lib.hid (HX5.out.next HB8.out)
          have HW8 := Lib.hid (below_next HW5.out HW5.out.size HB8.out)
          clear KL CLA HBd HB6 HB7 HB8 HM5 HL5 HW5 HX5 kc kc' l0 l1 l2 l3 l4 l5 l6 x0 x1 x2 x3 x4 x5 x6 s0 s1 s2 s3 s4 CA1 CA2
          obtain ⟨l0, l1, l2, l3, l4, l5, l6⟩ := cells7 HL8.out
          obtain ⟨x0, x1, x2, x3, x4, x5, x6⟩ := cells7 HX8.out
          obtain ⟨f0, f1, f2, f3, f4, f5, f6⟩ := froz7 HL8.out
          have HL9 := Lib.hid (set7_blk HL8.out (.bool si) (.int .u64 sn) (.int .u64 sv) (.string sh) (.string sd) (.int .u64 t') (.int .u64 q'))
          have HM9 := Lib.hid (set7_only HM8.out (Nat.ne_of_lt HLT.out.1) (.bool si) (.int .u64 sn) (.int .u64 sv) (.string sh) (.string sd) (.int .u64 t') (.int .u64 q'))
          have HW9 := Lib.hid (set7_below HW8.out HLT.out.2 (.bool si) (.int .u64 sn) (.int .u64 sv) (.string sh) (.string sd) (.int .u64 t') (.int .u64 q'))
          clear HM8 HL8 HX8 HW8 hrf hqs
          go_wp2_with fail
          go_roundw
          case rel => exact ⟨k + 1, t', q', by omega, by omega, by go_num, qa, qb, HM9, HL9, HW9⟩
          case measure => simp [intOf]; omega
end Go.Proofs.YtbgcbcnidjlhnaaDoor.IdentRises
