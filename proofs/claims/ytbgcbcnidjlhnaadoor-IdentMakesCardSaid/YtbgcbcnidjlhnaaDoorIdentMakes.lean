/- The statement IdentMakes: its walk. -/
import Derived.Test.YtbgcbcnidjlhnaaDoorAlive05
import Derived.Test.YtbgcbcnidjlhnaaDoorIdRr
import Derived.Test.YtbgcbcnidjlhnaaDoorIdEq
import Derived.Test.YtbgcbcnidjlhnaaDoorReadsP
import Derived.Test.YtbgcbcnidjlhnaaDoorFrameOps
import Derived.Deep.RegionHeld3
import Derived.Deep.LoopGhost
namespace Go.Proofs.YtbgcbcnidjlhnaaDoor.Eid
open Go.RowKit Wd Cb
attribute [local go_sem ↓ high] Eid.run_nm4
set_option maxHeartbeats 2000000 in
theorem run_id6 (w : World) (d : Nat) (i1 i2 : Bool) (n1 s1 n2 s2 t1 q1 t2 q2 : Int) (h1 d1 h2 d2 : ByteArray) :
    (Op.equalIn (d + 3) 36 (.agg #[.bool i1, .int .u64 n1, .int .u64 s1, .string h1, .string d1, .int .u64 t1, .int .u64 q1]) (.agg #[.bool i2, .int .u64 n2, .int .u64 s2, .string h2, .string d2, .int .u64 t2, .int .u64 q2])).run Tryd.prog w = .ok (idEq ⟨⟨i1, n1, s1, h1, d1⟩, t1, q1⟩ ⟨⟨i2, n2, s2, h2, d2⟩, t2, q2⟩) w := by
  rw [run_equalIn_struct w (d + 2) 36 _ _ (by kernel_rfl) (by kernel_rfl)]
  simp only [Program.fieldsOf, Tryd.underlying36]
  unfold idEq
  cases e0 : nmEq ⟨i1, n1, s1, h1, d1⟩ ⟨i2, n2, s2, h2, d2⟩ <;> cases e1 : (t1 == t2) <;> cases e2 : (q1 == q2) <;> go_simp
theorem bad_rk (s : Nm) : (nmEq s zeroNm || !right s) = decide (rk s < 1) := by
  cases hr : right s
  · rw [rk_false hr]
    simp
  · rw [rk_true hr]
    rcases kd_cases s with h | h | h
    · obtain rfl := kd_zero_eq s h
      rw [nmEq_self, h]
      rfl
    · have hn : nmEq s zeroNm = false := by
        cases hq : nmEq s zeroNm
        · rfl
        · obtain rfl := (nmEq_iff _ _).1 hq
          rw [kd_zero] at h
          cases h
      rw [hn, h]
      rfl
    · have hn : nmEq s zeroNm = false := by
        cases hq : nmEq s zeroNm
        · rfl
        · obtain rfl := (nmEq_iff _ _).1 hq
          rw [kd_zero] at h
          cases h
      rw [hn, h]
      rfl
end Go.Proofs.YtbgcbcnidjlhnaaDoor.Eid
namespace Go.Proofs.YtbgcbcnidjlhnaaDoor.IdentMakes
open Go.RowKit Wd Eid Cb
attribute [local go_sem ↓ high] Eid.run_id Eid.run_id6 Eid.run_nm4

theorem mk_far7 {w : World} {g k : Nat} {x : Eid.Id} {m : Bool} (h : Mk w g x m) (hn : g ≠ k) (a b c d e f l : Value) : Mk (set7 w k a b c d e f l) g x m := set7_far h hn a b c d e f l

theorem cells9 {w : World} {g : Nat} {t : TypeId} {a b c d e f k l m : Value} (h : Blk w g t #[a, b, c, d, e, f, k, l, m]) : w.cell? ⟨g, 0, none⟩ = some a ∧ w.cell? ⟨g, 1, none⟩ = some b ∧ w.cell? ⟨g, 2, none⟩ = some c ∧ w.cell? ⟨g, 3, none⟩ = some d ∧ w.cell? ⟨g, 4, none⟩ = some e ∧ w.cell? ⟨g, 5, none⟩ = some f ∧ w.cell? ⟨g, 6, none⟩ = some k ∧ w.cell? ⟨g, 7, none⟩ = some l ∧ w.cell? ⟨g, 8, none⟩ = some m :=
  ⟨by simpa using h.cell 0, by simpa using h.cell 1, by simpa using h.cell 2, by simpa using h.cell 3, by simpa using h.cell 4, by simpa using h.cell 5, by simpa using h.cell 6, by simpa using h.cell 7, by simpa using h.cell 8⟩
theorem iright_seq {y : Eid.Id} (h : iright y = true) : y.seq ≤ 1099511627776 := by
  unfold iright at h
  simp only [Bool.and_eq_true, decide_eq_true_eq] at h
  exact h.2.2
theorem kp_cases {x y : Eid.Id} (hy : y.ok) : (iright y = false ∧ ikeep x y = 1) ∨ (iright y = true ∧ nmEq y.src x.src = false ∧ ikeep x y = 1) ∨ (iright y = true ∧ nmEq y.src x.src = true ∧ ils x y = false ∧ ikeep x y = 7) ∨ (iright y = true ∧ nmEq y.src x.src = true ∧ ils x y = true ∧ (0 ≤ y.seq ∧ y.seq ≤ 1099511627776) ∧ ikeep x y = 0) := by
  have hq := hy.q0
  cases hr : iright y
  · exact .inl ⟨rfl, by unfold ikeep; rw [if_pos hr]⟩
  · have hs := iright_seq hr
    cases hn : nmEq y.src x.src
    · exact .inr (.inl ⟨rfl, rfl, by unfold ikeep; rw [hr, hn]; rfl⟩)
    · cases hl : ils x y
      · exact .inr (.inr (.inl ⟨rfl, rfl, rfl, by unfold ikeep; rw [hr, hn, hl]; rfl⟩))
      · exact .inr (.inr (.inr ⟨rfl, rfl, rfl, ⟨hq, hs⟩, by unfold ikeep; rw [hr, hn, hl]; rfl⟩))

theorem nx_cases (x : Eid.Id) (now : Int) (h0 : 0 ≤ x.seq) (h1 : x.seq ≤ 1099511627776) : inext x now = (x, 1) ∨ inext x now = (x, 5) ∨ ∃ n : Eid.Id, inext x now = (n, 0) ∧ 0 ≤ n.seq ∧ n.seq ≤ 1099511627776 := by
  unfold inext
  by_cases a : 1099511627776 < now
  · exact .inl (if_pos a)
  · rw [if_neg a]
    by_cases b : x.time < now
    · rw [if_pos b]
      exact .inr (.inr ⟨_, rfl, by show (0:Int) ≤ 0; omega, by show (0:Int) ≤ 1099511627776; omega⟩)
    · rw [if_neg b]
      by_cases c : 1099511627776 ≤ x.seq
      · exact .inr (.inl (if_pos c))
      · rw [if_neg c]
        exact .inr (.inr ⟨_, rfl, by show 0 ≤ x.seq + 1; omega, by show x.seq + 1 ≤ 1099511627776; omega⟩)

set_option maxRecDepth 100000 in
set_option maxHeartbeats 8000000 in
theorem walk (s : Nm) (A : Option Addr) (c : Nat) (xs : List Fr.Opr) (w : World) (hs : s.ok) (hc : xs.length ≤ c) (hm : c ≤ maxLen) (hl : Fr.OpsAt w w.heap.size A xs) (hx : ∀ q ∈ xs, Fr.Opr.ok q) (G : Gl w) :
    Calls Tryd.prog 4 #[s.val, .slice A xs.length c] w fun e w' => e = .returned (.bool true) ∧ Below w.heap.size w w' := by
  have CA := Lib.hid (fun w' g => alive05_any w' g)
  have CN := Lib.hid (fun w' => new_any s hs w')
  have CAS := Lib.hid (fun w' => as04_any s w')
  have CKI := Lib.hid (fun w' => kind04_any s hs w')
  have HSO := Lib.hid hs
  have HG := Lib.hid G
  have HB := Lib.hid ((Below.refl w.heap.size w).alloc (Nat.le_refl _) (.cells s.cells 24))
  have HK := Lib.hid (Blk.new w 24 s.cells)
  have HLx := Lib.hid hl
  have HXB := Lib.hid hx
  unfold maxLen at hm
  have HBK := Lib.hid (bad_rk s)
  have HZZ := Lib.hid (idEq_self zeroId)
  have HRFL := Lib.hid (show ∀ X : Eid.Id, idEq X X = true from idEq_self)
  clear hs hl hx G
  generalize right s = r at *
  generalize rk s = k4 at *
  obtain ⟨si, sn, sv, sh, sd⟩ := s
  generalize hq : nmEq ⟨si, sn, sv, sh, sd⟩ zeroNm = q at *
  clear hq
  go_enter Tryd.func4, Tryd.ntmps4
  go_upto_region 1 with (fail)
  generalize w.alloc (.cells #[.bool si, .int .u64 sn, .int .u64 sv, .string sh, .string sd] 24) = W at *
  have HGW := Lib.hid (HG.out.below HB.out)
  have hAl : Hid (∀ W', Below W.heap.size W W' → Calls Tryd.prog 14 #[] W' fun e w1 => e = .returned (.bool true) ∧ Below W.heap.size W w1) := Lib.hid (fun W' hW => by
    refine (CA.out W' (HGW.out.below hW)).mono ?_
    rintro e w1 ⟨rfl, hb⟩
    exact ⟨rfl, below_next hW hW.size hb⟩)
  have KC := Lib.hid (fun (W' : World) (hW : Below W.heap.size W W') => cells5 (HK.out.next hW))
  have HBE : Hid (∀ W', Below W.heap.size W W' → Below w.heap.size w W') := Lib.hid (fun W' h => below_next HB.out HB.out.size h)
  clear HG HGW CA
  obtain ⟨c0, c1, c2, c3, c4⟩ := KC.out W (Below.refl _ _)
  cases hS : decide (300 < wrap64 ((sh.size : Int) + sd.size))
  rotate_left
  · go_wp2_with fail
    refine (hAl.out W (Below.refl _ _)).mono ?_
    rintro e w1 ⟨rfl, hb⟩
    have HB1 := Lib.hid hb
    clear hb
    go_wp2_with fail
    go_ret
    exact ⟨rfl, HBE.out _ HB1.out⟩
  go_wp2_with fail
  clear hS
  refine (CN.out W).mono ?_
  rintro e w1 ⟨hn, hb1⟩
  have HB1 := Lib.hid hb1
  clear c0 c1 c2 c3 c4 hb1 CN
  obtain ⟨pt, er, rfl, HPT⟩ : ∃ (pt : Option Addr) (er : Int), e = .returned (.tuple #[.pointer pt, .int .i64 er]) ∧ Hid (((q || !r) = true ∧ pt = none ∧ er = 3) ∨ ((q || !r) = false ∧ er = 0 ∧ ∃ g, pt = some ⟨g, 0, none⟩ ∧ W.heap.size ≤ g ∧ Mk w1 g ⟨⟨si, sn, sv, sh, sd⟩, 0, 0⟩ true)) := by
    cases hb : (q || !r)
    · rw [hb] at hn
      simp only [Bool.false_eq_true, if_false] at hn
      obtain ⟨g, rfl, h1, h2⟩ := hn
      exact ⟨_, _, rfl, Lib.hid (.inr ⟨rfl, rfl, g, rfl, h1, h2⟩)⟩
    · rw [hb] at hn
      simp only [if_true] at hn
      exact ⟨_, _, hn, Lib.hid (.inl ⟨rfl, rfl, rfl⟩)⟩
  clear hn
  have HZ1 := Lib.hid (Blk.new w1 63 #[.bool false, .int .u64 0, .int .u64 0, .string ⟨#[]⟩, .string ⟨#[]⟩, .int .u64 0, .int .u64 0, .bool false])
  have HM1 : Hid (Mk (w1.alloc (.cells #[.bool false, .int .u64 0, .int .u64 0, .string ⟨#[]⟩, .string ⟨#[]⟩, .int .u64 0, .int .u64 0, .bool false] 63)) w1.heap.size zeroId false) := HZ1
  have HB2 := Lib.hid (HB1.out.alloc HB1.out.size (.cells #[.bool false, .int .u64 0, .int .u64 0, .string ⟨#[]⟩, .string ⟨#[]⟩, .int .u64 0, .int .u64 0, .bool false] 63))
  have HPT2 : Hid (∀ g, Mk w1 g ⟨⟨si, sn, sv, sh, sd⟩, 0, 0⟩ true → Mk (w1.alloc (.cells #[.bool false, .int .u64 0, .int .u64 0, .string ⟨#[]⟩, .string ⟨#[]⟩, .int .u64 0, .int .u64 0, .bool false] 63)) g ⟨⟨si, sn, sv, sh, sd⟩, 0, 0⟩ true) := Lib.hid (fun g h => Blk.alloc h _)
  go_upto_region 6 with (fail)
  clear HZ1 HB1
  generalize w1.alloc (.cells #[.bool false, .int .u64 0, .int .u64 0, .string ⟨#[]⟩, .string ⟨#[]⟩, .int .u64 0, .int .u64 0, .bool false] 63) = W2 at *
  go_wp2_with fail
  refine (next_nil 1 W2).mono ?_
  rintro e w3 ⟨rfl, hb3⟩
  have HW3 := Lib.hid (hb3.alloc hb3.size (.cells zero7 26))
  clear hb3
  go_upto_region 7 with (fail)
  generalize w3.alloc (.cells #[.bool false, .int .u64 0, .int .u64 0, .string ⟨#[]⟩, .string ⟨#[]⟩, .int .u64 0, .int .u64 0] 26) = W3 at *
  go_wp2_with fail
  refine (next_zero w1.heap.size zeroId 1 W3 (Mk.next HM1.out HW3.out)).mono ?_
  rintro e w4 ⟨rfl, hb4⟩
  have HW4 := Lib.hid ((below_next HW3.out HW3.out.size hb4).alloc (Nat.le_trans HW3.out.size hb4.size) (.cells zero7 26))
  clear hb4 HW3
  go_upto_region 8 with (fail)
  generalize w4.alloc (.cells #[.bool false, .int .u64 0, .int .u64 0, .string ⟨#[]⟩, .string ⟨#[]⟩, .int .u64 0, .int .u64 0] 26) = W4 at *
  go_wp2_with fail
  refine (keep_nil zeroId W4).mono ?_
  rintro e w5 ⟨rfl, hb5⟩
  have HW5 := Lib.hid (below_next HW4.out HW4.out.size hb5)
  clear hb5 HW4
  go_wp2_with fail
  refine (keep_zero w1.heap.size zeroId zeroId w5 (Mk.next HM1.out HW5.out)).mono ?_
  rintro e w6 ⟨rfl, hb6⟩
  have HW6 := Lib.hid (below_next HW5.out HW5.out.size hb6)
  clear hb6 HW5
  go_wp2_with fail
  refine (last_nil w6).mono ?_
  rintro e w7 ⟨rfl, hb7⟩
  have HW7 := Lib.hid (below_next HW6.out HW6.out.size hb7)
  have HB7 := Lib.hid (below_next HB2.out HB2.out.size HW7.out)
  clear hb7 HW6 HM1
  have hzz := HZZ.out
  go_upto_region 10 with (fail)
  clear hzz HZZ
  obtain ⟨c0, c1, c2, c3, c4⟩ := KC.out w7 HB7.out
  go_wp2_with fail
  refine (CAS.out w7).mono ?_
  rintro e w8 ⟨rfl, hb8⟩
  have HW8 := Lib.hid (below_next HW7.out HW7.out.size hb8)
  clear hb8 HW7 HB7 c0 c1 c2 c3 c4
  go_wp2_with fail
  refine (CKI.out w8).mono ?_
  rintro e w9 ⟨rfl, hb9⟩
  have HW9 := Lib.hid (below_next HW8.out HW8.out.size hb9)
  have HB9 := Lib.hid (below_next HB2.out HB2.out.size HW9.out)
  clear hb9 HW8 CKI
  rcases HPT.out with ⟨h1, rfl, rfl⟩ | ⟨h1, rfl, g, rfl, hg, hmk⟩
  · have d1 : decide (k4 < 1) = true := by rw [← HBK.out, h1]
    clear HPT HPT2 h1 HBK
    go_wp2_with fail
    refine (hAl.out w9 HB9.out).mono ?_
    rintro e w10 ⟨rfl, hb⟩
    have HB10 := Lib.hid hb
    clear hb
    go_wp2_with fail
    go_ret
    exact ⟨rfl, HBE.out _ HB10.out⟩
  · have d1 : decide (k4 < 1) = false := by rw [← HBK.out, h1]
    have HM9 := Lib.hid (Mk.next (HPT2.out g hmk) HW9.out)
    clear HPT HPT2 h1 HBK hmk HW9 HB2
    obtain ⟨c0, c1, c2, c3, c4⟩ := KC.out w9 HB9.out
    go_wp2_with fail
    refine (CAS.out w9).mono ?_
    rintro e w10 ⟨rfl, hb10⟩
    have HB10 := Lib.hid (below_next HB9.out HB9.out.size hb10)
    have HM10 := Lib.hid (HM9.out.next hb10)
    have HM11 : Hid (Mk (w10.alloc (.cells #[.bool si, .int .u64 sn, .int .u64 sv, .string sh, .string sd, .int .u64 0, .int .u64 0] 36)) g ⟨⟨si, sn, sv, sh, sd⟩, 0, 0⟩ true) := Lib.hid (Blk.alloc HM10.out _)
    have HL11 := Lib.hid (Blk.new w10 36 #[.bool si, .int .u64 sn, .int .u64 sv, .string sh, .string sd, .int .u64 0, .int .u64 0])
    have HB11 := Lib.hid (HB10.out.alloc HB10.out.size (.cells #[.bool si, .int .u64 sn, .int .u64 sv, .string sh, .string sd, .int .u64 0, .int .u64 0] 36))
    have HLT := Lib.hid (show g < w10.heap.size ∧ W.heap.size ≤ w10.heap.size from ⟨HM10.out.lt, HB10.out.size⟩)
    clear hb10 HM9 HB9 HM10 HB10 c0 c1 c2 c3 c4 CAS
    go_upto_region 15 with (fail)
    generalize w10.alloc (.cells #[.bool si, .int .u64 sn, .int .u64 sv, .string sh, .string sd, .int .u64 0, .int .u64 0] 36) = W11 at *
    generalize w10.heap.size = gl at *
    go_wp2_with fail
    go_loopw [14] (fun i wr => ∃ (k : Nat) (X : Eid.Id), k ≤ xs.length ∧ k ≤ 100 ∧ i = .int .i64 k ∧ Hid (0 ≤ X.seq ∧ X.seq ≤ 1099511627776) ∧ Hid (Mk wr g X true) ∧ Hid (Blk wr gl 36 X.cells) ∧ Hid (Below W.heap.size W wr)) (fun i _ => xs.length - (intOf i).toNat)
    case atStart => exact ⟨0, ⟨⟨si, sn, sv, sh, sd⟩, 0, 0⟩, by omega, by omega, rfl, Lib.hid ⟨by show (0:Int) ≤ 0; omega, by show (0:Int) ≤ 1099511627776; omega⟩, HM11, HL11, HB11⟩
    case round =>
      obtain ⟨k, X, hk, hk2, rfl, HXO, HM, HL, HW⟩ := hrel
      clear HM11 HL11 HB11
      by_cases hlt : k < xs.length ∧ k < 100
      rotate_left
      · have HX : Hid (Below W.heap.size W wr) := Lib.hid HW.out
        clear HM HL HW HXO
        by_cases h1 : k < xs.length
        · obtain rfl : k = 100 := by omega
          have d1 : decide (((100 : Nat) : Int) < (xs.length : Int)) = true := decide_eq_true (by omega)
          go_wp2_with fail
          refine (hAl.out _ HX.out).mono ?_
          rintro e w9 ⟨rfl, hb⟩
          have HBf := Lib.hid hb
          clear hb
          go_wp2_with fail
          go_ret
          exact ⟨rfl, HBE.out _ HBf.out⟩
        · have d1 : decide ((k : Int) < (xs.length : Int)) = false := decide_eq_false (by omega)
          go_wp2_with fail
          refine (hAl.out _ HX.out).mono ?_
          rintro e w9 ⟨rfl, hb⟩
          have HBf := Lib.hid hb
          clear hb
          go_wp2_with fail
          go_ret
          exact ⟨rfl, HBE.out _ HBf.out⟩
      · obtain ⟨i1, i2⟩ := hlt
        obtain ⟨b, o, rfl, hb, hcell⟩ := HLx.out k i1
        have HOO := Lib.hid (HXB.out _ (List.getElem_mem i1))
        generalize xs[k] = p at *
        obtain ⟨pk, now, Y⟩ := p
        have HYO : Hid (Y.ok) := Lib.hid HOO.out.x
        have HNB : Hid (0 ≤ now ∧ now ≤ 18446744073709551615) := Lib.hid ⟨HOO.out.n0, HOO.out.n1⟩
        clear HOO
        have CASY := Lib.hid (fun w' => as05_any Y w')
        obtain ⟨⟨yi, yn, ys, yh, yd⟩, yt, yq⟩ := Y
        have KO : Hid (∀ W', Below W.heap.size W W' → W'.cell? ⟨b, o + k * 9, none⟩ = some (.bool pk) ∧ W'.cell? ⟨b, o + k * 9 + 1, none⟩ = some (.int .u64 now) ∧ W'.cell? ⟨b, o + k * 9 + 2, none⟩ = some (.bool yi) ∧ W'.cell? ⟨b, o + k * 9 + 3, none⟩ = some (.int .u64 yn) ∧ W'.cell? ⟨b, o + k * 9 + 4, none⟩ = some (.int .u64 ys) ∧ W'.cell? ⟨b, o + k * 9 + 5, none⟩ = some (.string yh) ∧ W'.cell? ⟨b, o + k * 9 + 6, none⟩ = some (.string yd) ∧ W'.cell? ⟨b, o + k * 9 + 7, none⟩ = some (.int .u64 yt) ∧ W'.cell? ⟨b, o + k * 9 + 8, none⟩ = some (.int .u64 yq)) := Lib.hid (fun W' hW => by
          have hh := HBE.out W' hW
          have f := fun j (hj : j < 9) => (hh.cell (p := ⟨b, o + k * 9 + j, none⟩) hb).trans (hcell j hj)
          exact ⟨f 0 (by omega), f 1 (by omega), f 2 (by omega), f 3 (by omega), f 4 (by omega), f 5 (by omega), f 6 (by omega), f 7 (by omega), f 8 (by omega)⟩)
        clear hcell
        have j0 : (0 : Int) ≤ (k : Int) := by omega
        have j1 : (k : Int) < (xs.length : Int) := by omega
        have j2 : (k : Int) < 100 := by omega
        obtain ⟨q0, q1, q2, q3, q4, q5, q6, q7, q8⟩ := KO.out wr HW.out
        have HLG := Lib.hid (show g < wr.heap.size ∧ gl < wr.heap.size ∧ W.heap.size ≤ wr.heap.size from ⟨HM.out.lt, HL.out.lt, HW.out.size⟩)
        obtain ⟨⟨xi, xn, xs1, xh, xd⟩, xt, xq⟩ := X
        obtain ⟨tg, CGR⟩ : ∃ tg : Bool, Hid (∀ w', Calls Tryd.prog 12 #[.agg #[.bool yi, .int .u64 yn, .int .u64 ys, .string yh, .string yd, .int .u64 yt, .int .u64 yq]] w' fun e w1 => e = .returned (.bool tg) ∧ Below w'.heap.size w' w1) := ⟨_, Lib.hid (fun w' => great05_any ⟨⟨yi, yn, ys, yh, yd⟩, yt, yq⟩ w')⟩
        have HCS : Hid ((iright ⟨⟨yi, yn, ys, yh, yd⟩, yt, yq⟩ = false ∧ ikeep ⟨⟨xi, xn, xs1, xh, xd⟩, xt, xq⟩ ⟨⟨yi, yn, ys, yh, yd⟩, yt, yq⟩ = 1) ∨ (iright ⟨⟨yi, yn, ys, yh, yd⟩, yt, yq⟩ = true ∧ nmEq ⟨yi, yn, ys, yh, yd⟩ ⟨xi, xn, xs1, xh, xd⟩ = false ∧ ikeep ⟨⟨xi, xn, xs1, xh, xd⟩, xt, xq⟩ ⟨⟨yi, yn, ys, yh, yd⟩, yt, yq⟩ = 1) ∨ (iright ⟨⟨yi, yn, ys, yh, yd⟩, yt, yq⟩ = true ∧ nmEq ⟨yi, yn, ys, yh, yd⟩ ⟨xi, xn, xs1, xh, xd⟩ = true ∧ ils ⟨⟨xi, xn, xs1, xh, xd⟩, xt, xq⟩ ⟨⟨yi, yn, ys, yh, yd⟩, yt, yq⟩ = false ∧ ikeep ⟨⟨xi, xn, xs1, xh, xd⟩, xt, xq⟩ ⟨⟨yi, yn, ys, yh, yd⟩, yt, yq⟩ = 7) ∨ (iright ⟨⟨yi, yn, ys, yh, yd⟩, yt, yq⟩ = true ∧ nmEq ⟨yi, yn, ys, yh, yd⟩ ⟨xi, xn, xs1, xh, xd⟩ = true ∧ ils ⟨⟨xi, xn, xs1, xh, xd⟩, xt, xq⟩ ⟨⟨yi, yn, ys, yh, yd⟩, yt, yq⟩ = true ∧ (0 ≤ yq ∧ yq ≤ 1099511627776) ∧ ikeep ⟨⟨xi, xn, xs1, xh, xd⟩, xt, xq⟩ ⟨⟨yi, yn, ys, yh, yd⟩, yt, yq⟩ = 0)) := Lib.hid (kp_cases HYO.out)
        have HO5 := Lib.hid (Blk.new wr 70 #[.bool pk, .int .u64 now, .bool yi, .int .u64 yn, .int .u64 ys, .string yh, .string yd, .int .u64 yt, .int .u64 yq])
        have HM5 : Hid (Mk (wr.alloc (.cells #[.bool pk, .int .u64 now, .bool yi, .int .u64 yn, .int .u64 ys, .string yh, .string yd, .int .u64 yt, .int .u64 yq] 70)) g ⟨⟨xi, xn, xs1, xh, xd⟩, xt, xq⟩ true) := Lib.hid (Blk.alloc HM.out _)
        have HL5 := Lib.hid (HL.out.alloc (.cells #[.bool pk, .int .u64 now, .bool yi, .int .u64 yn, .int .u64 ys, .string yh, .string yd, .int .u64 yt, .int .u64 yq] 70))

        have HW5 := Lib.hid (HW.out.alloc HW.out.size (.cells #[.bool pk, .int .u64 now, .bool yi, .int .u64 yn, .int .u64 ys, .string yh, .string yd, .int .u64 yt, .int .u64 yq] 70))
        clear HM HL HW
        have HNGo := Lib.hid (show wr.heap.size ≠ g from Nat.ne_of_gt HLG.out.1)
        have HNO := Lib.hid (show wr.heap.size ≠ gl from Nat.ne_of_gt HLG.out.2.1)
        go_upto_region 19 with (fail)
        clear q0 q1 q2 q3 q4 q5 q6 q7 q8 KO HLG
        generalize wr.alloc (.cells #[.bool pk, .int .u64 now, .bool yi, .int .u64 yn, .int .u64 ys, .string yh, .string yd, .int .u64 yt, .int .u64 yq] 70) = W5 at *
        generalize wr.heap.size = bo at *
        obtain ⟨p0, p1, p2, p3, p4, p5, p6, p7, p8⟩ := cells9 HO5.out
        cases tg
        rotate_left
        · go_wp2_with fail
          refine (CGR.out W5).mono ?_
          rintro e w6 ⟨rfl, hb6⟩
          have HB6 := Lib.hid (below_next HW5.out HW5.out.size hb6)
          clear hb6 p0 p1 p2 p3 p4 p5 p6 p7 p8
          go_wp2_with fail
          refine (hAl.out w6 HB6.out).mono ?_
          rintro e wF ⟨rfl, hb⟩
          have HBf := Lib.hid hb
          clear hb
          go_wp2_with fail
          go_ret
          exact ⟨rfl, HBE.out _ HBf.out⟩
        go_wp2_with fail
        refine (CGR.out W5).mono ?_
        rintro e w6 ⟨rfl, hb6⟩
        have HM6 := Lib.hid (Mk.next HM5.out hb6)
        have HL6 := Lib.hid (HL5.out.next hb6)
        have HO6 := Lib.hid (HO5.out.next hb6)
        have HW6 := Lib.hid (below_next HW5.out HW5.out.size hb6)
        clear hb6 HM5 HL5 HO5 HW5
        clear p0 p1 p2 p3 p4 p5 p6 p7 p8
        clear CGR
        obtain ⟨p0, p1, p2, p3, p4, p5, p6, p7, p8⟩ := cells9 HO6.out
        cases pk
        rotate_left
        · go_wp2_with fail
          refine (CASY.out w6).mono ?_
          rintro e w7 ⟨rfl, hb7⟩
          have HM7 := Lib.hid (Mk.next HM6.out hb7)
          have HL7 := Lib.hid (HL6.out.next hb7)
          have HO7 := Lib.hid (HO6.out.next hb7)
          have HW7 := Lib.hid (below_next HW6.out HW6.out.size hb7)
          clear hb7 HM6 HL6 HO6 HW6
          clear CASY p0 p1 p2 p3 p4 p5 p6 p7 p8
          have HX7a := Lib.hid (Blk.new w7 36 #[.bool yi, .int .u64 yn, .int .u64 ys, .string yh, .string yd, .int .u64 yt, .int .u64 yq])
          have HM7a : Hid (Mk (w7.alloc (.cells #[.bool yi, .int .u64 yn, .int .u64 ys, .string yh, .string yd, .int .u64 yt, .int .u64 yq] 36)) g ⟨⟨xi, xn, xs1, xh, xd⟩, xt, xq⟩ true) := Lib.hid (Blk.alloc HM7.out _)
          have HL7a := Lib.hid (HL7.out.alloc (.cells #[.bool yi, .int .u64 yn, .int .u64 ys, .string yh, .string yd, .int .u64 yt, .int .u64 yq] 36))
          have HO7a := Lib.hid (HO7.out.alloc (.cells #[.bool yi, .int .u64 yn, .int .u64 ys, .string yh, .string yd, .int .u64 yt, .int .u64 yq] 36))
          have HW7a := Lib.hid (HW7.out.alloc HW7.out.size (.cells #[.bool yi, .int .u64 yn, .int .u64 ys, .string yh, .string yd, .int .u64 yt, .int .u64 yq] 36))
          clear HM7 HL7 HO7 HW7
          go_upto_region 23 with (fail)
          generalize w7.alloc (.cells #[.bool yi, .int .u64 yn, .int .u64 ys, .string yh, .string yd, .int .u64 yt, .int .u64 yq] 36) = W7 at *
          generalize w7.heap.size = bx at *
          obtain ⟨x0, x1, x2, x3, x4, x5, x6⟩ := cells7 HX7a.out
          rcases HCS.out with ⟨hr, hik⟩ | ⟨hr, hne, hik⟩ | ⟨hr, hne, hah, hik⟩ | ⟨hr, hne, hah, hsq, hik⟩
          · have CR : Hid (∀ w', Calls Tryd.prog 22 #[.agg #[.bool yi, .int .u64 yn, .int .u64 ys, .string yh, .string yd, .int .u64 yt, .int .u64 yq]] w' fun e w1 => e = .returned (.bool false) ∧ Below w'.heap.size w' w1) := Lib.hid (fun w' => by
              have h := right05_any ⟨⟨yi, yn, ys, yh, yd⟩, yt, yq⟩ HYO.out w'
              rw [hr] at h
              exact h)
            go_wp2_with fail
            refine (CR.out W7).mono ?_
            rintro e w8 ⟨rfl, hb8⟩
            have HM8 := Lib.hid (Mk.next HM7a.out hb8)
            have HL8 := Lib.hid (HL7a.out.next hb8)
            have HO8 := Lib.hid (HO7a.out.next hb8)
            have HW8 := Lib.hid (below_next HW7a.out HW7a.out.size hb8)
            have HX8 := Lib.hid (HX7a.out.next hb8)
            clear hb8 HM7a HL7a HO7a HW7a HX7a
            clear CR x0 x1 x2 x3 x4 x5 x6 hr
            have HZQ := Lib.hid HXO.out
            obtain ⟨p0, p1, p2, p3, p4, p5, p6, p7, p8⟩ := cells9 HO8.out
            have CK : Hid (Calls Tryd.prog 30 #[.pointer (some ⟨g, 0, none⟩), .agg #[.bool yi, .int .u64 yn, .int .u64 ys, .string yh, .string yd, .int .u64 yt, .int .u64 yq]] w8 fun e w' => e = .returned (.int .i64 1) ∧ Mk w' g ⟨⟨xi, xn, xs1, xh, xd⟩, xt, xq⟩ true ∧ w8.grownBy w' (some g)) := Lib.hid (by
              have h := keep_any g ⟨⟨xi, xn, xs1, xh, xd⟩, xt, xq⟩ ⟨⟨yi, yn, ys, yh, yd⟩, yt, yq⟩ w8 HM8.out HYO.out
              rw [show kv ⟨⟨xi, xn, xs1, xh, xd⟩, xt, xq⟩ ⟨⟨yi, yn, ys, yh, yd⟩, yt, yq⟩ = ⟨⟨xi, xn, xs1, xh, xd⟩, xt, xq⟩ by unfold kv; rw [hik]; rfl, hik] at h
              exact h)
            go_wp2_with fail
            refine CK.out.mono ?_
            rintro e wk ⟨rfl, hmk, hok⟩
            have HMk := Lib.hid hmk
            have HLk := Lib.hid (blk_only HL8.out hok (Nat.ne_of_gt HLT.out.1))
            have HWk := Lib.hid (below_only HW8.out hok hg HW8.out.size)
            clear hmk hok CK HM8 HL8 HO8 HW8 hik
            clear p0 p1 p2 p3 p4 p5 p6 p7 p8
            go_upto_region 36 with (fail)
            have HBd := Lib.hid (Below.refl wk.heap.size wk).drew
            have KL : Hid (∀ w', Below wk.heap.size wk w' → w'.cell? ⟨gl, 0, none⟩ = some (.bool xi) ∧ w'.cell? ⟨gl, 1, none⟩ = some (.int .u64 xn) ∧ w'.cell? ⟨gl, 2, none⟩ = some (.int .u64 xs1) ∧ w'.cell? ⟨gl, 3, none⟩ = some (.string xh) ∧ w'.cell? ⟨gl, 4, none⟩ = some (.string xd) ∧ w'.cell? ⟨gl, 5, none⟩ = some (.int .u64 xt) ∧ w'.cell? ⟨gl, 6, none⟩ = some (.int .u64 xq)) := Lib.hid (fun w' h => cells7 (HLk.out.next h))
            have CLA := Lib.hid (fun (W' : World) (h : Below wk.heap.size wk W') => last_any g ⟨⟨xi, xn, xs1, xh, xd⟩, xt, xq⟩ W' (Mk.next HMk.out h))
            have CAZ := Lib.hid (fun (W' : World) => as05_any ⟨⟨xi, xn, xs1, xh, xd⟩, xt, xq⟩ W')
            have hrf := HRFL.out ⟨⟨xi, xn, xs1, xh, xd⟩, xt, xq⟩
            go_region_held3 (fun w' => w'.cell? ⟨gl, 0, none⟩ = some (.bool xi) ∧ w'.cell? ⟨gl, 1, none⟩ = some (.int .u64 xn) ∧ w'.cell? ⟨gl, 2, none⟩ = some (.int .u64 xs1) ∧ w'.cell? ⟨gl, 3, none⟩ = some (.string xh) ∧ w'.cell? ⟨gl, 4, none⟩ = some (.string xd) ∧ w'.cell? ⟨gl, 5, none⟩ = some (.int .u64 xt) ∧ w'.cell? ⟨gl, 6, none⟩ = some (.int .u64 xq))
              (first | with_reducible exact KL.out _ HBd.out | with_reducible exact KL.out _ HBA.out | with_reducible exact KL.out _ HBB.out | fail)
              (first | (go_at_call 15; (with_reducible refine (CAZ.out _).mono ?_); rintro e wB ⟨rfl, hbB⟩; have HBB := Lib.hid (below_next HBA.out HBA.out.size hbB); clear hbB) | (go_at_call 31; (with_reducible refine (CLA.out _ HBd.out).mono ?_); rintro e wA ⟨rfl, hbA⟩; have HBA := Lib.hid (below_next HBd.out HBd.out.size hbA); clear hbA) | fail)
            have HMz := Lib.hid (Mk.next HMk.out HBB.out)
            have HLz := Lib.hid (HLk.out.next HBB.out)
            have HWz := Lib.hid (below_next HWk.out HWk.out.size HBB.out)
            clear KL CLA CAZ HBd HBA HBB HMk HLk HWk hrf
            go_wp2_with fail
            go_roundw
            case rel => exact ⟨k + 1, ⟨⟨xi, xn, xs1, xh, xd⟩, xt, xq⟩, by omega, by omega, by go_num, HZQ, HMz, HLz, HWz⟩
            case measure => simp [intOf]; omega
          · have CR : Hid (∀ w', Calls Tryd.prog 22 #[.agg #[.bool yi, .int .u64 yn, .int .u64 ys, .string yh, .string yd, .int .u64 yt, .int .u64 yq]] w' fun e w1 => e = .returned (.bool true) ∧ Below w'.heap.size w' w1) := Lib.hid (fun w' => by
              have h := right05_any ⟨⟨yi, yn, ys, yh, yd⟩, yt, yq⟩ HYO.out w'
              rw [hr] at h
              exact h)
            go_wp2_with fail
            refine (CR.out W7).mono ?_
            rintro e w8 ⟨rfl, hb8⟩
            have HM8 := Lib.hid (Mk.next HM7a.out hb8)
            have HL8 := Lib.hid (HL7a.out.next hb8)
            have HO8 := Lib.hid (HO7a.out.next hb8)
            have HW8 := Lib.hid (below_next HW7a.out HW7a.out.size hb8)
            have HX8 := Lib.hid (HX7a.out.next hb8)
            clear hb8 HM7a HL7a HO7a HW7a HX7a
            clear CR x0 x1 x2 x3 x4 x5 x6 hr
            obtain ⟨x0, x1, x2, x3, x4, x5, x6⟩ := cells7 HX8.out
            obtain ⟨l0, l1, l2, l3, l4, l5, l6⟩ := cells7 HL8.out
            have HZQ := Lib.hid HXO.out
            obtain ⟨p0, p1, p2, p3, p4, p5, p6, p7, p8⟩ := cells9 HO8.out
            have CK : Hid (Calls Tryd.prog 30 #[.pointer (some ⟨g, 0, none⟩), .agg #[.bool yi, .int .u64 yn, .int .u64 ys, .string yh, .string yd, .int .u64 yt, .int .u64 yq]] w8 fun e w' => e = .returned (.int .i64 1) ∧ Mk w' g ⟨⟨xi, xn, xs1, xh, xd⟩, xt, xq⟩ true ∧ w8.grownBy w' (some g)) := Lib.hid (by
              have h := keep_any g ⟨⟨xi, xn, xs1, xh, xd⟩, xt, xq⟩ ⟨⟨yi, yn, ys, yh, yd⟩, yt, yq⟩ w8 HM8.out HYO.out
              rw [show kv ⟨⟨xi, xn, xs1, xh, xd⟩, xt, xq⟩ ⟨⟨yi, yn, ys, yh, yd⟩, yt, yq⟩ = ⟨⟨xi, xn, xs1, xh, xd⟩, xt, xq⟩ by unfold kv; rw [hik]; rfl, hik] at h
              exact h)
            go_wp2_with fail
            refine CK.out.mono ?_
            clear hne x0 x1 x2 x3 x4 x5 x6 l0 l1 l2 l3 l4 l5 l6
            rintro e wk ⟨rfl, hmk, hok⟩
            have HMk := Lib.hid hmk
            have HLk := Lib.hid (blk_only HL8.out hok (Nat.ne_of_gt HLT.out.1))
            have HWk := Lib.hid (below_only HW8.out hok hg HW8.out.size)
            clear hmk hok CK HM8 HL8 HO8 HW8 hik
            clear p0 p1 p2 p3 p4 p5 p6 p7 p8
            go_upto_region 36 with (fail)
            have HBd := Lib.hid (Below.refl wk.heap.size wk).drew
            have KL : Hid (∀ w', Below wk.heap.size wk w' → w'.cell? ⟨gl, 0, none⟩ = some (.bool xi) ∧ w'.cell? ⟨gl, 1, none⟩ = some (.int .u64 xn) ∧ w'.cell? ⟨gl, 2, none⟩ = some (.int .u64 xs1) ∧ w'.cell? ⟨gl, 3, none⟩ = some (.string xh) ∧ w'.cell? ⟨gl, 4, none⟩ = some (.string xd) ∧ w'.cell? ⟨gl, 5, none⟩ = some (.int .u64 xt) ∧ w'.cell? ⟨gl, 6, none⟩ = some (.int .u64 xq)) := Lib.hid (fun w' h => cells7 (HLk.out.next h))
            have CLA := Lib.hid (fun (W' : World) (h : Below wk.heap.size wk W') => last_any g ⟨⟨xi, xn, xs1, xh, xd⟩, xt, xq⟩ W' (Mk.next HMk.out h))
            have CAZ := Lib.hid (fun (W' : World) => as05_any ⟨⟨xi, xn, xs1, xh, xd⟩, xt, xq⟩ W')
            have hrf := HRFL.out ⟨⟨xi, xn, xs1, xh, xd⟩, xt, xq⟩
            go_region_held3 (fun w' => w'.cell? ⟨gl, 0, none⟩ = some (.bool xi) ∧ w'.cell? ⟨gl, 1, none⟩ = some (.int .u64 xn) ∧ w'.cell? ⟨gl, 2, none⟩ = some (.int .u64 xs1) ∧ w'.cell? ⟨gl, 3, none⟩ = some (.string xh) ∧ w'.cell? ⟨gl, 4, none⟩ = some (.string xd) ∧ w'.cell? ⟨gl, 5, none⟩ = some (.int .u64 xt) ∧ w'.cell? ⟨gl, 6, none⟩ = some (.int .u64 xq))
              (first | with_reducible exact KL.out _ HBd.out | with_reducible exact KL.out _ HBA.out | with_reducible exact KL.out _ HBB.out | fail)
              (first | (go_at_call 15; (with_reducible refine (CAZ.out _).mono ?_); rintro e wB ⟨rfl, hbB⟩; have HBB := Lib.hid (below_next HBA.out HBA.out.size hbB); clear hbB) | (go_at_call 31; (with_reducible refine (CLA.out _ HBd.out).mono ?_); rintro e wA ⟨rfl, hbA⟩; have HBA := Lib.hid (below_next HBd.out HBd.out.size hbA); clear hbA) | fail)
            have HMz := Lib.hid (Mk.next HMk.out HBB.out)
            have HLz := Lib.hid (HLk.out.next HBB.out)
            have HWz := Lib.hid (below_next HWk.out HWk.out.size HBB.out)
            clear KL CLA CAZ HBd HBA HBB HMk HLk HWk hrf
            go_wp2_with fail
            go_roundw
            case rel => exact ⟨k + 1, ⟨⟨xi, xn, xs1, xh, xd⟩, xt, xq⟩, by omega, by omega, by go_num, HZQ, HMz, HLz, HWz⟩
            case measure => simp [intOf]; omega
          · have CR : Hid (∀ w', Calls Tryd.prog 22 #[.agg #[.bool yi, .int .u64 yn, .int .u64 ys, .string yh, .string yd, .int .u64 yt, .int .u64 yq]] w' fun e w1 => e = .returned (.bool true) ∧ Below w'.heap.size w' w1) := Lib.hid (fun w' => by
              have h := right05_any ⟨⟨yi, yn, ys, yh, yd⟩, yt, yq⟩ HYO.out w'
              rw [hr] at h
              exact h)
            go_wp2_with fail
            refine (CR.out W7).mono ?_
            rintro e w8 ⟨rfl, hb8⟩
            have HM8 := Lib.hid (Mk.next HM7a.out hb8)
            have HL8 := Lib.hid (HL7a.out.next hb8)
            have HO8 := Lib.hid (HO7a.out.next hb8)
            have HW8 := Lib.hid (below_next HW7a.out HW7a.out.size hb8)
            have HX8 := Lib.hid (HX7a.out.next hb8)
            clear hb8 HM7a HL7a HO7a HW7a HX7a
            clear CR x0 x1 x2 x3 x4 x5 x6 hr
            obtain ⟨x0, x1, x2, x3, x4, x5, x6⟩ := cells7 HX8.out
            obtain ⟨l0, l1, l2, l3, l4, l5, l6⟩ := cells7 HL8.out
            have CAH : Hid (∀ w', Calls Tryd.prog 24 #[.agg #[.bool xi, .int .u64 xn, .int .u64 xs1, .string xh, .string xd, .int .u64 xt, .int .u64 xq], .agg #[.bool yi, .int .u64 yn, .int .u64 ys, .string yh, .string yd, .int .u64 yt, .int .u64 yq]] w' fun e w1 => e = .returned (.bool false) ∧ Below w'.heap.size w' w1) := Lib.hid (fun w' => by
              have h := ahead05_any ⟨⟨xi, xn, xs1, xh, xd⟩, xt, xq⟩ ⟨⟨yi, yn, ys, yh, yd⟩, yt, yq⟩ w'
              rw [hah] at h
              exact h)
            clear hah
            go_wp2_with fail
            refine (CAH.out w8).mono ?_
            rintro e w8c ⟨rfl, hb8⟩
            have HM8c := Lib.hid (Mk.next HM8.out hb8)
            have HL8c := Lib.hid (HL8.out.next hb8)
            have HO8c := Lib.hid (HO8.out.next hb8)
            have HW8c := Lib.hid (below_next HW8.out HW8.out.size hb8)
            have HX8c := Lib.hid (HX8.out.next hb8)
            clear hb8 HM8 HL8 HO8 HW8 HX8
            clear CAH hne x0 x1 x2 x3 x4 x5 x6 l0 l1 l2 l3 l4 l5 l6
            have HM8 := Lib.hid HM8c.out
            have HL8 := Lib.hid HL8c.out
            have HO8 := Lib.hid HO8c.out
            have HW8 := Lib.hid HW8c.out
            have HX8 := Lib.hid HX8c.out
            clear HM8c HL8c HO8c HW8c HX8c
            have HZQ := Lib.hid HXO.out
            obtain ⟨p0, p1, p2, p3, p4, p5, p6, p7, p8⟩ := cells9 HO8.out
            have CK : Hid (Calls Tryd.prog 30 #[.pointer (some ⟨g, 0, none⟩), .agg #[.bool yi, .int .u64 yn, .int .u64 ys, .string yh, .string yd, .int .u64 yt, .int .u64 yq]] w8c fun e w' => e = .returned (.int .i64 7) ∧ Mk w' g ⟨⟨xi, xn, xs1, xh, xd⟩, xt, xq⟩ true ∧ w8c.grownBy w' (some g)) := Lib.hid (by
              have h := keep_any g ⟨⟨xi, xn, xs1, xh, xd⟩, xt, xq⟩ ⟨⟨yi, yn, ys, yh, yd⟩, yt, yq⟩ w8c HM8.out HYO.out
              rw [show kv ⟨⟨xi, xn, xs1, xh, xd⟩, xt, xq⟩ ⟨⟨yi, yn, ys, yh, yd⟩, yt, yq⟩ = ⟨⟨xi, xn, xs1, xh, xd⟩, xt, xq⟩ by unfold kv; rw [hik]; rfl, hik] at h
              exact h)
            go_wp2_with fail
            refine CK.out.mono ?_
            rintro e wk ⟨rfl, hmk, hok⟩
            have HMk := Lib.hid hmk
            have HLk := Lib.hid (blk_only HL8.out hok (Nat.ne_of_gt HLT.out.1))
            have HWk := Lib.hid (below_only HW8.out hok hg HW8.out.size)
            clear hmk hok CK HM8 HL8 HO8 HW8 hik
            clear p0 p1 p2 p3 p4 p5 p6 p7 p8
            go_upto_region 36 with (fail)
            have HBd := Lib.hid (Below.refl wk.heap.size wk).drew
            have KL : Hid (∀ w', Below wk.heap.size wk w' → w'.cell? ⟨gl, 0, none⟩ = some (.bool xi) ∧ w'.cell? ⟨gl, 1, none⟩ = some (.int .u64 xn) ∧ w'.cell? ⟨gl, 2, none⟩ = some (.int .u64 xs1) ∧ w'.cell? ⟨gl, 3, none⟩ = some (.string xh) ∧ w'.cell? ⟨gl, 4, none⟩ = some (.string xd) ∧ w'.cell? ⟨gl, 5, none⟩ = some (.int .u64 xt) ∧ w'.cell? ⟨gl, 6, none⟩ = some (.int .u64 xq)) := Lib.hid (fun w' h => cells7 (HLk.out.next h))
            have CLA := Lib.hid (fun (W' : World) (h : Below wk.heap.size wk W') => last_any g ⟨⟨xi, xn, xs1, xh, xd⟩, xt, xq⟩ W' (Mk.next HMk.out h))
            have CAZ := Lib.hid (fun (W' : World) => as05_any ⟨⟨xi, xn, xs1, xh, xd⟩, xt, xq⟩ W')
            have hrf := HRFL.out ⟨⟨xi, xn, xs1, xh, xd⟩, xt, xq⟩
            go_region_held3 (fun w' => w'.cell? ⟨gl, 0, none⟩ = some (.bool xi) ∧ w'.cell? ⟨gl, 1, none⟩ = some (.int .u64 xn) ∧ w'.cell? ⟨gl, 2, none⟩ = some (.int .u64 xs1) ∧ w'.cell? ⟨gl, 3, none⟩ = some (.string xh) ∧ w'.cell? ⟨gl, 4, none⟩ = some (.string xd) ∧ w'.cell? ⟨gl, 5, none⟩ = some (.int .u64 xt) ∧ w'.cell? ⟨gl, 6, none⟩ = some (.int .u64 xq))
              (first | with_reducible exact KL.out _ HBd.out | with_reducible exact KL.out _ HBA.out | with_reducible exact KL.out _ HBB.out | fail)
              (first | (go_at_call 15; (with_reducible refine (CAZ.out _).mono ?_); rintro e wB ⟨rfl, hbB⟩; have HBB := Lib.hid (below_next HBA.out HBA.out.size hbB); clear hbB) | (go_at_call 31; (with_reducible refine (CLA.out _ HBd.out).mono ?_); rintro e wA ⟨rfl, hbA⟩; have HBA := Lib.hid (below_next HBd.out HBd.out.size hbA); clear hbA) | fail)
            have HMz := Lib.hid (Mk.next HMk.out HBB.out)
            have HLz := Lib.hid (HLk.out.next HBB.out)
            have HWz := Lib.hid (below_next HWk.out HWk.out.size HBB.out)
            clear KL CLA CAZ HBd HBA HBB HMk HLk HWk hrf
            go_wp2_with fail
            go_roundw
            case rel => exact ⟨k + 1, ⟨⟨xi, xn, xs1, xh, xd⟩, xt, xq⟩, by omega, by omega, by go_num, HZQ, HMz, HLz, HWz⟩
            case measure => simp [intOf]; omega
          · have CR : Hid (∀ w', Calls Tryd.prog 22 #[.agg #[.bool yi, .int .u64 yn, .int .u64 ys, .string yh, .string yd, .int .u64 yt, .int .u64 yq]] w' fun e w1 => e = .returned (.bool true) ∧ Below w'.heap.size w' w1) := Lib.hid (fun w' => by
              have h := right05_any ⟨⟨yi, yn, ys, yh, yd⟩, yt, yq⟩ HYO.out w'
              rw [hr] at h
              exact h)
            go_wp2_with fail
            refine (CR.out W7).mono ?_
            rintro e w8 ⟨rfl, hb8⟩
            have HM8 := Lib.hid (Mk.next HM7a.out hb8)
            have HL8 := Lib.hid (HL7a.out.next hb8)
            have HO8 := Lib.hid (HO7a.out.next hb8)
            have HW8 := Lib.hid (below_next HW7a.out HW7a.out.size hb8)
            have HX8 := Lib.hid (HX7a.out.next hb8)
            clear hb8 HM7a HL7a HO7a HW7a HX7a
            clear CR x0 x1 x2 x3 x4 x5 x6 hr
            obtain ⟨x0, x1, x2, x3, x4, x5, x6⟩ := cells7 HX8.out
            obtain ⟨l0, l1, l2, l3, l4, l5, l6⟩ := cells7 HL8.out
            have CAH : Hid (∀ w', Calls Tryd.prog 24 #[.agg #[.bool xi, .int .u64 xn, .int .u64 xs1, .string xh, .string xd, .int .u64 xt, .int .u64 xq], .agg #[.bool yi, .int .u64 yn, .int .u64 ys, .string yh, .string yd, .int .u64 yt, .int .u64 yq]] w' fun e w1 => e = .returned (.bool true) ∧ Below w'.heap.size w' w1) := Lib.hid (fun w' => by
              have h := ahead05_any ⟨⟨xi, xn, xs1, xh, xd⟩, xt, xq⟩ ⟨⟨yi, yn, ys, yh, yd⟩, yt, yq⟩ w'
              rw [hah] at h
              exact h)
            clear hah
            go_wp2_with fail
            refine (CAH.out w8).mono ?_
            rintro e w8c ⟨rfl, hb8⟩
            have HM8c := Lib.hid (Mk.next HM8.out hb8)
            have HL8c := Lib.hid (HL8.out.next hb8)
            have HO8c := Lib.hid (HO8.out.next hb8)
            have HW8c := Lib.hid (below_next HW8.out HW8.out.size hb8)
            have HX8c := Lib.hid (HX8.out.next hb8)
            clear hb8 HM8 HL8 HO8 HW8 HX8
            clear CAH hne x0 x1 x2 x3 x4 x5 x6 l0 l1 l2 l3 l4 l5 l6
            have HM8 := Lib.hid HM8c.out
            have HL8 := Lib.hid HL8c.out
            have HO8 := Lib.hid HO8c.out
            have HW8 := Lib.hid HW8c.out
            have HX8 := Lib.hid HX8c.out
            clear HM8c HL8c HO8c HW8c HX8c
            have HZQ := Lib.hid hsq
            clear hsq
            obtain ⟨f0, f1, f2, f3, f4, f5, f6⟩ := froz7 HL8.out
            obtain ⟨l0, l1, l2, l3, l4, l5, l6⟩ := cells7 HL8.out
            obtain ⟨x0, x1, x2, x3, x4, x5, x6⟩ := cells7 HX8.out
            have HL9 := Lib.hid (set7_blk HL8.out (.bool yi) (.int .u64 yn) (.int .u64 ys) (.string yh) (.string yd) (.int .u64 yt) (.int .u64 yq))
            have HM9 := Lib.hid (mk_far7 HM8.out (Nat.ne_of_lt HLT.out.1) (.bool yi) (.int .u64 yn) (.int .u64 ys) (.string yh) (.string yd) (.int .u64 yt) (.int .u64 yq))
            have HO9 := Lib.hid (set7_far HO8.out HNO.out (.bool yi) (.int .u64 yn) (.int .u64 ys) (.string yh) (.string yd) (.int .u64 yt) (.int .u64 yq))
            have HW9 := Lib.hid (set7_below HW8.out HLT.out.2 (.bool yi) (.int .u64 yn) (.int .u64 ys) (.string yh) (.string yd) (.int .u64 yt) (.int .u64 yq))
            have HS9 := Lib.hid (set7_size w8c gl (.bool yi) (.int .u64 yn) (.int .u64 ys) (.string yh) (.string yd) (.int .u64 yt) (.int .u64 yq))
            clear HM8 HL8 HO8 HW8 HX8
            go_upto_region 29 with (fail)
            clear f0 f1 f2 f3 f4 f5 f6 l0 l1 l2 l3 l4 l5 l6 x0 x1 x2 x3 x4 x5 x6
            generalize hG : set7 w8c gl (.bool yi) (.int .u64 yn) (.int .u64 ys) (.string yh) (.string yd) (.int .u64 yt) (.int .u64 yq) = W9 at *
            obtain ⟨p0, p1, p2, p3, p4, p5, p6, p7, p8⟩ := cells9 HO9.out
            have CK : Hid (Calls Tryd.prog 30 #[.pointer (some ⟨g, 0, none⟩), .agg #[.bool yi, .int .u64 yn, .int .u64 ys, .string yh, .string yd, .int .u64 yt, .int .u64 yq]] W9 fun e w' => e = .returned (.int .i64 0) ∧ Mk w' g ⟨⟨yi, yn, ys, yh, yd⟩, yt, yq⟩ true ∧ W9.grownBy w' (some g)) := Lib.hid (by
              have h := keep_any g ⟨⟨xi, xn, xs1, xh, xd⟩, xt, xq⟩ ⟨⟨yi, yn, ys, yh, yd⟩, yt, yq⟩ W9 HM9.out HYO.out
              rw [show kv ⟨⟨xi, xn, xs1, xh, xd⟩, xt, xq⟩ ⟨⟨yi, yn, ys, yh, yd⟩, yt, yq⟩ = ⟨⟨yi, yn, ys, yh, yd⟩, yt, yq⟩ by unfold kv; rw [hik]; rfl, hik] at h
              exact h)
            go_wp2_with fail
            refine CK.out.mono ?_
            rintro e wk ⟨rfl, hmk, hok⟩
            have HMk := Lib.hid hmk
            have HLk := Lib.hid (blk_only HL9.out hok (Nat.ne_of_gt HLT.out.1))
            have HWk := Lib.hid (below_only HW9.out hok hg HW9.out.size)
            clear hmk hok CK HM9 HL9 HO9 HW9 hik
            clear p0 p1 p2 p3 p4 p5 p6 p7 p8
            go_upto_region 36 with (fail)
            have HBd := Lib.hid (Below.refl wk.heap.size wk).drew
            have KL : Hid (∀ w', Below wk.heap.size wk w' → w'.cell? ⟨gl, 0, none⟩ = some (.bool yi) ∧ w'.cell? ⟨gl, 1, none⟩ = some (.int .u64 yn) ∧ w'.cell? ⟨gl, 2, none⟩ = some (.int .u64 ys) ∧ w'.cell? ⟨gl, 3, none⟩ = some (.string yh) ∧ w'.cell? ⟨gl, 4, none⟩ = some (.string yd) ∧ w'.cell? ⟨gl, 5, none⟩ = some (.int .u64 yt) ∧ w'.cell? ⟨gl, 6, none⟩ = some (.int .u64 yq)) := Lib.hid (fun w' h => cells7 (HLk.out.next h))
            have CLA := Lib.hid (fun (W' : World) (h : Below wk.heap.size wk W') => last_any g ⟨⟨yi, yn, ys, yh, yd⟩, yt, yq⟩ W' (Mk.next HMk.out h))
            have CAZ := Lib.hid (fun (W' : World) => as05_any ⟨⟨yi, yn, ys, yh, yd⟩, yt, yq⟩ W')
            have hrf := HRFL.out ⟨⟨yi, yn, ys, yh, yd⟩, yt, yq⟩
            go_region_held3 (fun w' => w'.cell? ⟨gl, 0, none⟩ = some (.bool yi) ∧ w'.cell? ⟨gl, 1, none⟩ = some (.int .u64 yn) ∧ w'.cell? ⟨gl, 2, none⟩ = some (.int .u64 ys) ∧ w'.cell? ⟨gl, 3, none⟩ = some (.string yh) ∧ w'.cell? ⟨gl, 4, none⟩ = some (.string yd) ∧ w'.cell? ⟨gl, 5, none⟩ = some (.int .u64 yt) ∧ w'.cell? ⟨gl, 6, none⟩ = some (.int .u64 yq))
              (first | with_reducible exact KL.out _ HBd.out | with_reducible exact KL.out _ HBA.out | with_reducible exact KL.out _ HBB.out | fail)
              (first | (go_at_call 15; (with_reducible refine (CAZ.out _).mono ?_); rintro e wB ⟨rfl, hbB⟩; have HBB := Lib.hid (below_next HBA.out HBA.out.size hbB); clear hbB) | (go_at_call 31; (with_reducible refine (CLA.out _ HBd.out).mono ?_); rintro e wA ⟨rfl, hbA⟩; have HBA := Lib.hid (below_next HBd.out HBd.out.size hbA); clear hbA) | fail)
            have HMz := Lib.hid (Mk.next HMk.out HBB.out)
            have HLz := Lib.hid (HLk.out.next HBB.out)
            have HWz := Lib.hid (below_next HWk.out HWk.out.size HBB.out)
            clear KL CLA CAZ HBd HBA HBB HMk HLk HWk hrf
            go_wp2_with fail
            go_roundw
            case rel => exact ⟨k + 1, ⟨⟨yi, yn, ys, yh, yd⟩, yt, yq⟩, by omega, by omega, by go_num, HZQ, HMz, HLz, HWz⟩
            case measure => simp [intOf]; omega
        · clear HCS HYO
          have HNG := Lib.hid (show bo ≠ g from HNGo.out)
          have CNX := Lib.hid (next_any g ⟨⟨xi, xn, xs1, xh, xd⟩, xt, xq⟩ now w6 HM6.out HXO.out.1)
          have CNR := Lib.hid (fun w' => next05_any ⟨⟨xi, xn, xs1, xh, xd⟩, xt, xq⟩ now w' HXO.out.1 HXO.out.2)
          rcases nx_cases ⟨⟨xi, xn, xs1, xh, xd⟩, xt, xq⟩ now HXO.out.1 HXO.out.2 with hP | hP | ⟨⟨⟨vi, vn, vs, vh, vd⟩, vt, vq⟩, hP, hz⟩
          · have HZQ := Lib.hid HXO.out
            have CN1 : Hid (Calls Tryd.prog 29 #[.pointer (some ⟨g, 0, none⟩), .int .u64 now] w6 fun e w' => e = .returned (.tuple #[.agg #[.bool false, .int .u64 0, .int .u64 0, .string ⟨#[]⟩, .string ⟨#[]⟩, .int .u64 0, .int .u64 0], .int .i64 1]) ∧ Mk w' g ⟨⟨xi, xn, xs1, xh, xd⟩, xt, xq⟩ true ∧ w6.grownBy w' (some g)) := Lib.hid (by
              have h := CNX.out
              rw [hP, show nv (⟨⟨xi, xn, xs1, xh, xd⟩, xt, xq⟩, 1) = zeroId from if_neg (by show ¬ ((1 : Int) = 0); decide)] at h
              exact h)
            have CN2 : Hid (∀ w', Calls Tryd.prog 34 #[.agg #[.bool xi, .int .u64 xn, .int .u64 xs1, .string xh, .string xd, .int .u64 xt, .int .u64 xq], .int .u64 now] w' fun e w1 => e = .returned (.tuple #[.agg #[.bool xi, .int .u64 xn, .int .u64 xs1, .string xh, .string xd, .int .u64 xt, .int .u64 xq], .int .i64 1]) ∧ Below w'.heap.size w' w1) := Lib.hid (fun w' => by
              have h := CNR.out w'
              rw [hP] at h
              exact h)
            clear CNX CNR hP HXO
            go_wp2_with fail
            refine CN1.out.mono ?_
            rintro e w7 ⟨rfl, hm, ho⟩
            have HM7 := Lib.hid hm
            have HL7 := Lib.hid (blk_only HL6.out ho (Nat.ne_of_gt HLT.out.1))
            have HO7 := Lib.hid (blk_only HO6.out ho HNG.out)
            have HW7 := Lib.hid (below_only HW6.out ho hg HW6.out.size)
            clear hm ho HM6 HL6 HO6 HW6 CN1 p0 p1 p2 p3 p4 p5 p6 p7 p8
            have HV8 := Lib.hid (Blk.new w7 26 #[.bool false, .int .u64 0, .int .u64 0, .string ⟨#[]⟩, .string ⟨#[]⟩, .int .u64 0, .int .u64 0])
            have HM8 : Hid (Mk (w7.alloc (.cells #[.bool false, .int .u64 0, .int .u64 0, .string ⟨#[]⟩, .string ⟨#[]⟩, .int .u64 0, .int .u64 0] 26)) g ⟨⟨xi, xn, xs1, xh, xd⟩, xt, xq⟩ true) := Lib.hid (Blk.alloc HM7.out _)
            have HL8 := Lib.hid (HL7.out.alloc (.cells #[.bool false, .int .u64 0, .int .u64 0, .string ⟨#[]⟩, .string ⟨#[]⟩, .int .u64 0, .int .u64 0] 26))
            have HO8 := Lib.hid (HO7.out.alloc (.cells #[.bool false, .int .u64 0, .int .u64 0, .string ⟨#[]⟩, .string ⟨#[]⟩, .int .u64 0, .int .u64 0] 26))
            have HW8 := Lib.hid (HW7.out.alloc HW7.out.size (.cells #[.bool false, .int .u64 0, .int .u64 0, .string ⟨#[]⟩, .string ⟨#[]⟩, .int .u64 0, .int .u64 0] 26))
            clear HM7 HL7 HO7 HW7
            go_upto_region 32 with (fail)
            generalize w7.alloc (.cells #[.bool false, .int .u64 0, .int .u64 0, .string ⟨#[]⟩, .string ⟨#[]⟩, .int .u64 0, .int .u64 0] 26) = W8 at *
            generalize w7.heap.size = bv at *
            obtain ⟨l0, l1, l2, l3, l4, l5, l6⟩ := cells7 HL8.out
            obtain ⟨p0, p1, p2, p3, p4, p5, p6, p7, p8⟩ := cells9 HO8.out
            go_wp2_with fail
            refine (CN2.out W8).mono ?_
            rintro e w9 ⟨rfl, hb9⟩
            have HM9 := Lib.hid (Mk.next HM8.out hb9)
            have HL9 := Lib.hid (HL8.out.next hb9)
            have HO9 := Lib.hid (HO8.out.next hb9)
            have HW9 := Lib.hid (below_next HW8.out HW8.out.size hb9)
            have HV9 := Lib.hid (HV8.out.next hb9)
            clear hb9 HM8 HL8 HO8 HW8 HV8
            clear CN2 l0 l1 l2 l3 l4 l5 l6
            clear p0 p1 p2 p3 p4 p5 p6 p7 p8
            have HY10 := Lib.hid (Blk.new w9 36 #[.bool xi, .int .u64 xn, .int .u64 xs1, .string xh, .string xd, .int .u64 xt, .int .u64 xq])
            have HNY := Lib.hid (show w9.heap.size ≠ gl from Nat.ne_of_gt HL9.out.lt)
            have HM10 : Hid (Mk (w9.alloc (.cells #[.bool xi, .int .u64 xn, .int .u64 xs1, .string xh, .string xd, .int .u64 xt, .int .u64 xq] 36)) g ⟨⟨xi, xn, xs1, xh, xd⟩, xt, xq⟩ true) := Lib.hid (Blk.alloc HM9.out _)
            have HL10 := Lib.hid (HL9.out.alloc (.cells #[.bool xi, .int .u64 xn, .int .u64 xs1, .string xh, .string xd, .int .u64 xt, .int .u64 xq] 36))
            have HO10 := Lib.hid (HO9.out.alloc (.cells #[.bool xi, .int .u64 xn, .int .u64 xs1, .string xh, .string xd, .int .u64 xt, .int .u64 xq] 36))
            have HW10 := Lib.hid (HW9.out.alloc HW9.out.size (.cells #[.bool xi, .int .u64 xn, .int .u64 xs1, .string xh, .string xd, .int .u64 xt, .int .u64 xq] 36))
            have HV10 := Lib.hid (HV9.out.alloc (.cells #[.bool xi, .int .u64 xn, .int .u64 xs1, .string xh, .string xd, .int .u64 xt, .int .u64 xq] 36))
            clear HM9 HL9 HO9 HW9 HV9
            go_upto_region 33 with (fail)
            generalize w9.alloc (.cells #[.bool xi, .int .u64 xn, .int .u64 xs1, .string xh, .string xd, .int .u64 xt, .int .u64 xq] 36) = W10 at *
            generalize w9.heap.size = bn at *
            have HBd := Lib.hid (Below.refl W10.heap.size W10).drew
            have KL : Hid (∀ w', Below W10.heap.size W10 w' → (w'.cell? ⟨bv, 0, none⟩ = some (.bool false) ∧ w'.cell? ⟨bv, 1, none⟩ = some (.int .u64 0) ∧ w'.cell? ⟨bv, 2, none⟩ = some (.int .u64 0) ∧ w'.cell? ⟨bv, 3, none⟩ = some (.string ⟨#[]⟩) ∧ w'.cell? ⟨bv, 4, none⟩ = some (.string ⟨#[]⟩) ∧ w'.cell? ⟨bv, 5, none⟩ = some (.int .u64 0) ∧ w'.cell? ⟨bv, 6, none⟩ = some (.int .u64 0)) ∧ (w'.cell? ⟨bn, 0, none⟩ = some (.bool xi) ∧ w'.cell? ⟨bn, 1, none⟩ = some (.int .u64 xn) ∧ w'.cell? ⟨bn, 2, none⟩ = some (.int .u64 xs1) ∧ w'.cell? ⟨bn, 3, none⟩ = some (.string xh) ∧ w'.cell? ⟨bn, 4, none⟩ = some (.string xd) ∧ w'.cell? ⟨bn, 5, none⟩ = some (.int .u64 xt) ∧ w'.cell? ⟨bn, 6, none⟩ = some (.int .u64 xq))) := Lib.hid (fun w' h => ⟨cells7 (HV10.out.next h), cells7 (HY10.out.next h)⟩)
            have hrf : idEq ⟨⟨false, 0, 0, ⟨#[]⟩, ⟨#[]⟩⟩, 0, 0⟩ ⟨⟨false, 0, 0, ⟨#[]⟩, ⟨#[]⟩⟩, 0, 0⟩ = true := HRFL.out zeroId
            refine wp_region_held_drew (S := (fun w' => (w'.cell? ⟨bv, 0, none⟩ = some (.bool false) ∧ w'.cell? ⟨bv, 1, none⟩ = some (.int .u64 0) ∧ w'.cell? ⟨bv, 2, none⟩ = some (.int .u64 0) ∧ w'.cell? ⟨bv, 3, none⟩ = some (.string ⟨#[]⟩) ∧ w'.cell? ⟨bv, 4, none⟩ = some (.string ⟨#[]⟩) ∧ w'.cell? ⟨bv, 5, none⟩ = some (.int .u64 0) ∧ w'.cell? ⟨bv, 6, none⟩ = some (.int .u64 0)) ∧ (w'.cell? ⟨bn, 0, none⟩ = some (.bool xi) ∧ w'.cell? ⟨bn, 1, none⟩ = some (.int .u64 xn) ∧ w'.cell? ⟨bn, 2, none⟩ = some (.int .u64 xs1) ∧ w'.cell? ⟨bn, 3, none⟩ = some (.string xh) ∧ w'.cell? ⟨bn, 4, none⟩ = some (.string xd) ∧ w'.cell? ⟨bn, 5, none⟩ = some (.int .u64 xt) ∧ w'.cell? ⟨bn, 6, none⟩ = some (.int .u64 xq)))) (by kernel_rfl) (KL.out _ HBd.out) (fun hHeld => ?_)
            first
            | (refine wpAnyH_take (i := 0) (oi := ({ dst := some 148, op := Op.move (Operand.tmp 19), type := 38, pos := "law.go:105", after := #[], guard := none })) (v := ?_) rfl (by kernel_rfl) (by kernel_rfl) (by kernel_rfl) (fun _ _ _ h => h) (Or.inl ⟨by rfl, ?_⟩) hHeld ?_
               rotate_left
               · intro w hSw
                 (try dsimp only at hSw)
                 go_simp
                 try with_reducible rfl
               try simp only [Act.put, List.setIfInBounds_toArray, List.set_cons_zero, List.set_cons_succ])
            | fail
            first
            | (refine wpAnyH_take (i := 1) (oi := ({ dst := some 149, op := Op.move (Operand.tmp 21), type := 38, pos := "law.go:105", after := #[], guard := none })) (v := ?_) rfl (by kernel_rfl) (by kernel_rfl) (by kernel_rfl) (fun _ _ _ h => h) (Or.inl ⟨by rfl, ?_⟩) hHeld ?_
               rotate_left
               · intro w hSw
                 (try dsimp only at hSw)
                 go_simp
                 try with_reducible rfl
               try simp only [Act.put, List.setIfInBounds_toArray, List.set_cons_zero, List.set_cons_succ])
            | fail
            first
            | (refine wpAnyH_take (i := 2) (oi := ({ dst := some 150, op := Op.binOp BinOp.neq 38 (Operand.tmp 148) (Operand.tmp 149) 38, type := 4, pos := "law.go:105", after := #[{ on := 0, ground := Ground.data }, { on := 1, ground := Ground.data }], guard := none })) (v := ?_) rfl (by kernel_rfl) (by kernel_rfl) (by kernel_rfl) (fun _ _ _ h => h) (Or.inl ⟨by rfl, ?_⟩) hHeld ?_
               rotate_left
               · intro w hSw
                 (try dsimp only at hSw)
                 go_simp
                 try with_reducible rfl
               try simp only [Act.put, List.setIfInBounds_toArray, List.set_cons_zero, List.set_cons_succ])
            | fail
            first
            | (refine wpAnyH_take (i := 3) (oi := ({ dst := some 151, op := Op.move (Operand.tmp 150), type := 4, pos := "law.go:105", after := #[{ on := 2, ground := Ground.data }], guard := none })) (v := ?_) rfl (by kernel_rfl) (by kernel_rfl) (by kernel_rfl) (fun _ _ _ h => h) (Or.inl ⟨by rfl, ?_⟩) hHeld ?_
               rotate_left
               · intro w hSw
                 (try dsimp only at hSw)
                 go_simp
                 try with_reducible rfl
               try simp only [Act.put, List.setIfInBounds_toArray, List.set_cons_zero, List.set_cons_succ])
            | fail
            first
            | (refine wpAnyH_take (i := 4) (oi := ({ dst := some 152, op := Op.move (Operand.tmp 21), type := 38, pos := "law.go:105", after := #[{ on := 3, ground := Ground.guard }], guard := some (3, false) })) (v := ?_) rfl (by kernel_rfl) (by kernel_rfl) (by kernel_rfl) (fun _ _ _ h => h) (Or.inl ⟨by rfl, ?_⟩) hHeld ?_
               rotate_left
               · intro w hSw
                 (try dsimp only at hSw)
                 go_simp
                 try with_reducible rfl
               try simp only [Act.put, List.setIfInBounds_toArray, List.set_cons_zero, List.set_cons_succ])
            | fail
            first
            | (refine wpAnyH_take (i := 5) (oi := ({ dst := some 153, op := Op.binOp BinOp.eql 38 (Operand.tmp 152) (Operand.const (Value.int IntKind.i64 0)) 38, type := 4, pos := "law.go:105", after := #[{ on := 4, ground := Ground.data }, { on := 3, ground := Ground.guard }], guard := some (3, false) })) (v := ?_) rfl (by kernel_rfl) (by kernel_rfl) (by kernel_rfl) (fun _ _ _ h => h) (Or.inl ⟨by rfl, ?_⟩) hHeld ?_
               rotate_left
               · intro w hSw
                 (try dsimp only at hSw)
                 go_simp
                 try with_reducible rfl
               try simp only [Act.put, List.setIfInBounds_toArray, List.set_cons_zero, List.set_cons_succ])
            | fail
            first
            | (refine wpAnyH_take (i := 6) (oi := ({ dst := some 154, op := Op.move (Operand.tmp 153), type := 4, pos := "law.go:105", after := #[{ on := 5, ground := Ground.data }, { on := 3, ground := Ground.chain }, { on := 3, ground := Ground.guard }], guard := some (3, false) })) (v := ?_) rfl (by kernel_rfl) (by kernel_rfl) (by kernel_rfl) (fun _ _ _ h => h) (Or.inl ⟨by rfl, ?_⟩) hHeld ?_
               rotate_left
               · intro w hSw
                 (try dsimp only at hSw)
                 go_simp
                 try with_reducible rfl
               try simp only [Act.put, List.setIfInBounds_toArray, List.set_cons_zero, List.set_cons_succ])
            | fail
            first
            | (refine wpAnyH_take (i := 7) (oi := ({ dst := some 155, op := Op.load 26 (Operand.tmp 18), type := 26, pos := "law.go:105", after := #[{ on := 6, ground := Ground.guard }], guard := some (6, true) })) (v := undef) rfl (by kernel_rfl) (by kernel_rfl) (by kernel_rfl) (fun _ _ _ h => h) (Or.inr ⟨by rfl, rfl⟩) hHeld ?_
               try simp only [Act.put, List.setIfInBounds_toArray, List.set_cons_zero, List.set_cons_succ])
            | fail
            first
            | (refine wpAnyH_take (i := 8) (oi := ({ dst := some 156, op := Op.call { callee := Callee.value (Operand.func 15), args := #[Operand.tmp 155], argTypes := #[26] }, type := 36, pos := "law.go:105", after := #[{ on := 7, ground := Ground.data }, { on := 6, ground := Ground.chain }, { on := 6, ground := Ground.guard }], guard := some (6, true) })) (v := undef) rfl (by kernel_rfl) (by kernel_rfl) (by kernel_rfl) (fun _ _ _ h => h) (Or.inr ⟨by rfl, rfl⟩) hHeld ?_
               try simp only [Act.put, List.setIfInBounds_toArray, List.set_cons_zero, List.set_cons_succ])
            | fail
            first
            | (refine wpAnyH_take (i := 9) (oi := ({ dst := some 157, op := Op.load 36 (Operand.tmp 20), type := 36, pos := "law.go:105", after := #[{ on := 6, ground := Ground.guard }], guard := some (6, true) })) (v := undef) rfl (by kernel_rfl) (by kernel_rfl) (by kernel_rfl) (fun _ _ _ h => h) (Or.inr ⟨by rfl, rfl⟩) hHeld ?_
               try simp only [Act.put, List.setIfInBounds_toArray, List.set_cons_zero, List.set_cons_succ])
            | fail
            first
            | (refine wpAnyH_take (i := 10) (oi := ({ dst := some 158, op := Op.binOp BinOp.neq 36 (Operand.tmp 156) (Operand.tmp 157) 36, type := 4, pos := "law.go:105", after := #[{ on := 8, ground := Ground.data }, { on := 9, ground := Ground.data }, { on := 6, ground := Ground.guard }], guard := some (6, true) })) (v := undef) rfl (by kernel_rfl) (by kernel_rfl) (by kernel_rfl) (fun _ _ _ h => h) (Or.inr ⟨by rfl, rfl⟩) hHeld ?_
               try simp only [Act.put, List.setIfInBounds_toArray, List.set_cons_zero, List.set_cons_succ])
            | fail
            first
            | (refine wpAnyH_take (i := 11) (oi := ({ dst := some 159, op := Op.pick (Operand.tmp 154) (Operand.tmp 158) (Operand.const (Value.bool false)), type := 4, pos := "law.go:105", after := #[{ on := 6, ground := Ground.data }, { on := 10, ground := Ground.data }, { on := 3, ground := Ground.guard }], guard := some (3, false) })) (v := ?_) rfl (by kernel_rfl) (by kernel_rfl) (by kernel_rfl) (fun _ _ _ h => h) (Or.inl ⟨by rfl, ?_⟩) hHeld ?_
               rotate_left
               · intro w hSw
                 (try dsimp only at hSw)
                 go_simp
                 try with_reducible rfl
               try simp only [Act.put, List.setIfInBounds_toArray, List.set_cons_zero, List.set_cons_succ])
            | fail
            first
            | (refine wpAnyH_take (i := 12) (oi := ({ dst := some 160, op := Op.pick (Operand.tmp 151) (Operand.const (Value.bool true)) (Operand.tmp 159), type := 4, pos := "law.go:105", after := #[{ on := 3, ground := Ground.data }, { on := 11, ground := Ground.data }], guard := none })) (v := ?_) rfl (by kernel_rfl) (by kernel_rfl) (by kernel_rfl) (fun _ _ _ h => h) (Or.inl ⟨by rfl, ?_⟩) hHeld ?_
               rotate_left
               · intro w hSw
                 (try dsimp only at hSw)
                 go_simp
                 try with_reducible rfl
               try simp only [Act.put, List.setIfInBounds_toArray, List.set_cons_zero, List.set_cons_succ])
            | fail
            first
            | (refine wpAnyH_take (i := 13) (oi := ({ dst := some 161, op := Op.move (Operand.tmp 160), type := 4, pos := "law.go:105", after := #[{ on := 12, ground := Ground.data }, { on := 8, ground := Ground.chain }], guard := none })) (v := ?_) rfl (by kernel_rfl) (by kernel_rfl) (by kernel_rfl) (fun _ _ _ h => h) (Or.inl ⟨by rfl, ?_⟩) hHeld ?_
               rotate_left
               · intro w hSw
                 (try dsimp only at hSw)
                 go_simp
                 try with_reducible rfl
               try simp only [Act.put, List.setIfInBounds_toArray, List.set_cons_zero, List.set_cons_succ])
            | fail
            first
            | (refine wpAnyH_take (i := 14) (oi := ({ dst := some 162, op := Op.move (Operand.tmp 21), type := 38, pos := "law.go:105", after := #[{ on := 13, ground := Ground.guard }], guard := some (13, false) })) (v := ?_) rfl (by kernel_rfl) (by kernel_rfl) (by kernel_rfl) (fun _ _ _ h => h) (Or.inl ⟨by rfl, ?_⟩) hHeld ?_
               rotate_left
               · intro w hSw
                 (try dsimp only at hSw)
                 go_simp
                 try with_reducible rfl
               try simp only [Act.put, List.setIfInBounds_toArray, List.set_cons_zero, List.set_cons_succ])
            | fail
            first
            | (refine wpAnyH_take (i := 15) (oi := ({ dst := some 163, op := Op.binOp BinOp.neq 38 (Operand.tmp 162) (Operand.const (Value.int IntKind.i64 0)) 38, type := 4, pos := "law.go:105", after := #[{ on := 14, ground := Ground.data }, { on := 13, ground := Ground.guard }], guard := some (13, false) })) (v := ?_) rfl (by kernel_rfl) (by kernel_rfl) (by kernel_rfl) (fun _ _ _ h => h) (Or.inl ⟨by rfl, ?_⟩) hHeld ?_
               rotate_left
               · intro w hSw
                 (try dsimp only at hSw)
                 go_simp
                 try with_reducible rfl
               try simp only [Act.put, List.setIfInBounds_toArray, List.set_cons_zero, List.set_cons_succ])
            | fail
            first
            | (refine wpAnyH_take (i := 16) (oi := ({ dst := some 164, op := Op.move (Operand.tmp 163), type := 4, pos := "law.go:105", after := #[{ on := 15, ground := Ground.data }, { on := 13, ground := Ground.chain }, { on := 13, ground := Ground.guard }], guard := some (13, false) })) (v := ?_) rfl (by kernel_rfl) (by kernel_rfl) (by kernel_rfl) (fun _ _ _ h => h) (Or.inl ⟨by rfl, ?_⟩) hHeld ?_
               rotate_left
               · intro w hSw
                 (try dsimp only at hSw)
                 go_simp
                 try with_reducible rfl
               try simp only [Act.put, List.setIfInBounds_toArray, List.set_cons_zero, List.set_cons_succ])
            | fail
            first
            | (refine wpAnyH_take (i := 17) (oi := ({ dst := some 165, op := Op.load 26 (Operand.tmp 18), type := 26, pos := "law.go:105", after := #[{ on := 16, ground := Ground.guard }], guard := some (16, true) })) (v := ?_) rfl (by kernel_rfl) (by kernel_rfl) (by kernel_rfl) (fun _ _ _ h => h) (Or.inl ⟨by rfl, ?_⟩) hHeld ?_
               rotate_left
               · intro w hSw
                 (try dsimp only at hSw)
                 go_simp
                 try with_reducible rfl
               try simp only [Act.put, List.setIfInBounds_toArray, List.set_cons_zero, List.set_cons_succ])
            | fail
            first
            | (refine wpAnyH_take (i := 18) (oi := ({ dst := some 166, op := Op.build 26 #[], type := 26, pos := "law.go:105", after := #[{ on := 16, ground := Ground.guard }], guard := some (16, true) })) (v := ?_) rfl (by kernel_rfl) (by kernel_rfl) (by kernel_rfl) (fun _ _ _ h => h) (Or.inl ⟨by rfl, ?_⟩) hHeld ?_
               rotate_left
               · intro w hSw
                 (try dsimp only at hSw)
                 go_simp
                 try with_reducible rfl
               try simp only [Act.put, List.setIfInBounds_toArray, List.set_cons_zero, List.set_cons_succ])
            | fail
            first
            | (refine wpAnyH_take (i := 19) (oi := ({ dst := some 167, op := Op.binOp BinOp.neq 26 (Operand.tmp 165) (Operand.tmp 166) 26, type := 4, pos := "law.go:105", after := #[{ on := 17, ground := Ground.data }, { on := 18, ground := Ground.data }, { on := 16, ground := Ground.guard }], guard := some (16, true) })) (v := ?_) rfl (by kernel_rfl) (by kernel_rfl) (by kernel_rfl) (fun _ _ _ h => h) (Or.inl ⟨by rfl, ?_⟩) hHeld ?_
               rotate_left
               · intro w hSw
                 (try dsimp only at hSw)
                 go_simp
                 try with_reducible rfl
               try simp only [Act.put, List.setIfInBounds_toArray, List.set_cons_zero, List.set_cons_succ])
            | fail
            first
            | (refine wpAnyH_take (i := 20) (oi := ({ dst := some 168, op := Op.pick (Operand.tmp 164) (Operand.tmp 167) (Operand.const (Value.bool false)), type := 4, pos := "law.go:105", after := #[{ on := 16, ground := Ground.data }, { on := 19, ground := Ground.data }, { on := 13, ground := Ground.guard }], guard := some (13, false) })) (v := ?_) rfl (by kernel_rfl) (by kernel_rfl) (by kernel_rfl) (fun _ _ _ h => h) (Or.inl ⟨by rfl, ?_⟩) hHeld ?_
               rotate_left
               · intro w hSw
                 (try dsimp only at hSw)
                 go_simp
                 try with_reducible rfl
               try simp only [Act.put, List.setIfInBounds_toArray, List.set_cons_zero, List.set_cons_succ])
            | fail
            first
            | (refine wpAnyH_take (i := 21) (oi := ({ dst := some 169, op := Op.pick (Operand.tmp 161) (Operand.const (Value.bool true)) (Operand.tmp 168), type := 4, pos := "law.go:105", after := #[{ on := 13, ground := Ground.data }, { on := 20, ground := Ground.data }], guard := none })) (v := ?_) rfl (by kernel_rfl) (by kernel_rfl) (by kernel_rfl) (fun _ _ _ h => h) (Or.inl ⟨by rfl, ?_⟩) hHeld ?_
               rotate_left
               · intro w hSw
                 (try dsimp only at hSw)
                 go_simp
                 try with_reducible rfl
               try simp only [Act.put, List.setIfInBounds_toArray, List.set_cons_zero, List.set_cons_succ])
            | fail
            refine wpAnyH_done (by kernel_rfl) ?_ _
            clear hHeld
            have HBE2 := Lib.hid HBd.out
            have hbE := HBE2.out
            have HM11 := Lib.hid (Mk.next HM10.out hbE)
            have HL11 := Lib.hid (HL10.out.next hbE)
            have HW11 := Lib.hid (below_next HW10.out HW10.out.size hbE)
            have HY11 := Lib.hid (HY10.out.next hbE)
            clear hbE HM10 HL10 HW10 HY10
            clear KL HBd HBE2 hrf HV10 HO10
            generalize W10.drew = W11 at *
            obtain ⟨f0, f1, f2, f3, f4, f5, f6⟩ := froz7 HL11.out
            obtain ⟨l0, l1, l2, l3, l4, l5, l6⟩ := cells7 HL11.out
            obtain ⟨x0, x1, x2, x3, x4, x5, x6⟩ := cells7 HY11.out
            have HL12 := Lib.hid (set7_blk HL11.out (.bool xi) (.int .u64 xn) (.int .u64 xs1) (.string xh) (.string xd) (.int .u64 xt) (.int .u64 xq))
            have HM12 := Lib.hid (mk_far7 HM11.out (Nat.ne_of_lt HLT.out.1) (.bool xi) (.int .u64 xn) (.int .u64 xs1) (.string xh) (.string xd) (.int .u64 xt) (.int .u64 xq))
            have HW12 := Lib.hid (set7_below HW11.out HLT.out.2 (.bool xi) (.int .u64 xn) (.int .u64 xs1) (.string xh) (.string xd) (.int .u64 xt) (.int .u64 xq))
            clear HM11 HL11 HW11 HY11
            go_upto_region 36 with (fail)
            clear f0 f1 f2 f3 f4 f5 f6 l0 l1 l2 l3 l4 l5 l6 x0 x1 x2 x3 x4 x5 x6
            generalize hG : set7 W11 gl (.bool xi) (.int .u64 xn) (.int .u64 xs1) (.string xh) (.string xd) (.int .u64 xt) (.int .u64 xq) = W12 at *
            unfold set7 at hG
            rw [hG]
            clear hG
            have HBd := Lib.hid (Below.refl W12.heap.size W12).drew
            have KL : Hid (∀ w', Below W12.heap.size W12 w' → w'.cell? ⟨gl, 0, none⟩ = some (.bool xi) ∧ w'.cell? ⟨gl, 1, none⟩ = some (.int .u64 xn) ∧ w'.cell? ⟨gl, 2, none⟩ = some (.int .u64 xs1) ∧ w'.cell? ⟨gl, 3, none⟩ = some (.string xh) ∧ w'.cell? ⟨gl, 4, none⟩ = some (.string xd) ∧ w'.cell? ⟨gl, 5, none⟩ = some (.int .u64 xt) ∧ w'.cell? ⟨gl, 6, none⟩ = some (.int .u64 xq)) := Lib.hid (fun w' h => cells7 (HL12.out.next h))
            have CLA := Lib.hid (fun (W' : World) (h : Below W12.heap.size W12 W') => last_any g ⟨⟨xi, xn, xs1, xh, xd⟩, xt, xq⟩ W' (Mk.next HM12.out h))
            have CAZ := Lib.hid (fun (W' : World) => as05_any ⟨⟨xi, xn, xs1, xh, xd⟩, xt, xq⟩ W')
            have hrf := HRFL.out ⟨⟨xi, xn, xs1, xh, xd⟩, xt, xq⟩
            go_region_held3 (fun w' => w'.cell? ⟨gl, 0, none⟩ = some (.bool xi) ∧ w'.cell? ⟨gl, 1, none⟩ = some (.int .u64 xn) ∧ w'.cell? ⟨gl, 2, none⟩ = some (.int .u64 xs1) ∧ w'.cell? ⟨gl, 3, none⟩ = some (.string xh) ∧ w'.cell? ⟨gl, 4, none⟩ = some (.string xd) ∧ w'.cell? ⟨gl, 5, none⟩ = some (.int .u64 xt) ∧ w'.cell? ⟨gl, 6, none⟩ = some (.int .u64 xq))
              (first | with_reducible exact KL.out _ HBd.out | with_reducible exact KL.out _ HBA.out | with_reducible exact KL.out _ HBB.out | fail)
              (first | (go_at_call 15; (with_reducible refine (CAZ.out _).mono ?_); rintro e wB ⟨rfl, hbB⟩; have HBB := Lib.hid (below_next HBA.out HBA.out.size hbB); clear hbB) | (go_at_call 31; (with_reducible refine (CLA.out _ HBd.out).mono ?_); rintro e wA ⟨rfl, hbA⟩; have HBA := Lib.hid (below_next HBd.out HBd.out.size hbA); clear hbA) | fail)
            have HMz := Lib.hid (Mk.next HM12.out HBB.out)
            have HLz := Lib.hid (HL12.out.next HBB.out)
            have HWz := Lib.hid (below_next HW12.out HW12.out.size HBB.out)
            clear KL CLA CAZ HBd HBA HBB HM12 HL12 HW12 hrf
            go_wp2_with fail
            go_roundw
            case rel => exact ⟨k + 1, ⟨⟨xi, xn, xs1, xh, xd⟩, xt, xq⟩, by omega, by omega, by go_num, HZQ, HMz, HLz, HWz⟩
            case measure => simp [intOf]; omega
          · have HZQ := Lib.hid HXO.out
            have CN1 : Hid (Calls Tryd.prog 29 #[.pointer (some ⟨g, 0, none⟩), .int .u64 now] w6 fun e w' => e = .returned (.tuple #[.agg #[.bool false, .int .u64 0, .int .u64 0, .string ⟨#[]⟩, .string ⟨#[]⟩, .int .u64 0, .int .u64 0], .int .i64 5]) ∧ Mk w' g ⟨⟨xi, xn, xs1, xh, xd⟩, xt, xq⟩ true ∧ w6.grownBy w' (some g)) := Lib.hid (by
              have h := CNX.out
              rw [hP, show nv (⟨⟨xi, xn, xs1, xh, xd⟩, xt, xq⟩, 5) = zeroId from if_neg (by show ¬ ((5 : Int) = 0); decide)] at h
              exact h)
            have CN2 : Hid (∀ w', Calls Tryd.prog 34 #[.agg #[.bool xi, .int .u64 xn, .int .u64 xs1, .string xh, .string xd, .int .u64 xt, .int .u64 xq], .int .u64 now] w' fun e w1 => e = .returned (.tuple #[.agg #[.bool xi, .int .u64 xn, .int .u64 xs1, .string xh, .string xd, .int .u64 xt, .int .u64 xq], .int .i64 5]) ∧ Below w'.heap.size w' w1) := Lib.hid (fun w' => by
              have h := CNR.out w'
              rw [hP] at h
              exact h)
            clear CNX CNR hP HXO
            go_wp2_with fail
            refine CN1.out.mono ?_
            rintro e w7 ⟨rfl, hm, ho⟩
            have HM7 := Lib.hid hm
            have HL7 := Lib.hid (blk_only HL6.out ho (Nat.ne_of_gt HLT.out.1))
            have HO7 := Lib.hid (blk_only HO6.out ho HNG.out)
            have HW7 := Lib.hid (below_only HW6.out ho hg HW6.out.size)
            clear hm ho HM6 HL6 HO6 HW6 CN1 p0 p1 p2 p3 p4 p5 p6 p7 p8
            have HV8 := Lib.hid (Blk.new w7 26 #[.bool false, .int .u64 0, .int .u64 0, .string ⟨#[]⟩, .string ⟨#[]⟩, .int .u64 0, .int .u64 0])
            have HM8 : Hid (Mk (w7.alloc (.cells #[.bool false, .int .u64 0, .int .u64 0, .string ⟨#[]⟩, .string ⟨#[]⟩, .int .u64 0, .int .u64 0] 26)) g ⟨⟨xi, xn, xs1, xh, xd⟩, xt, xq⟩ true) := Lib.hid (Blk.alloc HM7.out _)
            have HL8 := Lib.hid (HL7.out.alloc (.cells #[.bool false, .int .u64 0, .int .u64 0, .string ⟨#[]⟩, .string ⟨#[]⟩, .int .u64 0, .int .u64 0] 26))
            have HO8 := Lib.hid (HO7.out.alloc (.cells #[.bool false, .int .u64 0, .int .u64 0, .string ⟨#[]⟩, .string ⟨#[]⟩, .int .u64 0, .int .u64 0] 26))
            have HW8 := Lib.hid (HW7.out.alloc HW7.out.size (.cells #[.bool false, .int .u64 0, .int .u64 0, .string ⟨#[]⟩, .string ⟨#[]⟩, .int .u64 0, .int .u64 0] 26))
            clear HM7 HL7 HO7 HW7
            go_upto_region 32 with (fail)
            generalize w7.alloc (.cells #[.bool false, .int .u64 0, .int .u64 0, .string ⟨#[]⟩, .string ⟨#[]⟩, .int .u64 0, .int .u64 0] 26) = W8 at *
            generalize w7.heap.size = bv at *
            obtain ⟨l0, l1, l2, l3, l4, l5, l6⟩ := cells7 HL8.out
            obtain ⟨p0, p1, p2, p3, p4, p5, p6, p7, p8⟩ := cells9 HO8.out
            go_wp2_with fail
            refine (CN2.out W8).mono ?_
            rintro e w9 ⟨rfl, hb9⟩
            have HM9 := Lib.hid (Mk.next HM8.out hb9)
            have HL9 := Lib.hid (HL8.out.next hb9)
            have HO9 := Lib.hid (HO8.out.next hb9)
            have HW9 := Lib.hid (below_next HW8.out HW8.out.size hb9)
            have HV9 := Lib.hid (HV8.out.next hb9)
            clear hb9 HM8 HL8 HO8 HW8 HV8
            clear CN2 l0 l1 l2 l3 l4 l5 l6
            clear p0 p1 p2 p3 p4 p5 p6 p7 p8
            have HY10 := Lib.hid (Blk.new w9 36 #[.bool xi, .int .u64 xn, .int .u64 xs1, .string xh, .string xd, .int .u64 xt, .int .u64 xq])
            have HNY := Lib.hid (show w9.heap.size ≠ gl from Nat.ne_of_gt HL9.out.lt)
            have HM10 : Hid (Mk (w9.alloc (.cells #[.bool xi, .int .u64 xn, .int .u64 xs1, .string xh, .string xd, .int .u64 xt, .int .u64 xq] 36)) g ⟨⟨xi, xn, xs1, xh, xd⟩, xt, xq⟩ true) := Lib.hid (Blk.alloc HM9.out _)
            have HL10 := Lib.hid (HL9.out.alloc (.cells #[.bool xi, .int .u64 xn, .int .u64 xs1, .string xh, .string xd, .int .u64 xt, .int .u64 xq] 36))
            have HO10 := Lib.hid (HO9.out.alloc (.cells #[.bool xi, .int .u64 xn, .int .u64 xs1, .string xh, .string xd, .int .u64 xt, .int .u64 xq] 36))
            have HW10 := Lib.hid (HW9.out.alloc HW9.out.size (.cells #[.bool xi, .int .u64 xn, .int .u64 xs1, .string xh, .string xd, .int .u64 xt, .int .u64 xq] 36))
            have HV10 := Lib.hid (HV9.out.alloc (.cells #[.bool xi, .int .u64 xn, .int .u64 xs1, .string xh, .string xd, .int .u64 xt, .int .u64 xq] 36))
            clear HM9 HL9 HO9 HW9 HV9
            go_upto_region 33 with (fail)
            generalize w9.alloc (.cells #[.bool xi, .int .u64 xn, .int .u64 xs1, .string xh, .string xd, .int .u64 xt, .int .u64 xq] 36) = W10 at *
            generalize w9.heap.size = bn at *
            have HBd := Lib.hid (Below.refl W10.heap.size W10).drew
            have KL : Hid (∀ w', Below W10.heap.size W10 w' → (w'.cell? ⟨bv, 0, none⟩ = some (.bool false) ∧ w'.cell? ⟨bv, 1, none⟩ = some (.int .u64 0) ∧ w'.cell? ⟨bv, 2, none⟩ = some (.int .u64 0) ∧ w'.cell? ⟨bv, 3, none⟩ = some (.string ⟨#[]⟩) ∧ w'.cell? ⟨bv, 4, none⟩ = some (.string ⟨#[]⟩) ∧ w'.cell? ⟨bv, 5, none⟩ = some (.int .u64 0) ∧ w'.cell? ⟨bv, 6, none⟩ = some (.int .u64 0)) ∧ (w'.cell? ⟨bn, 0, none⟩ = some (.bool xi) ∧ w'.cell? ⟨bn, 1, none⟩ = some (.int .u64 xn) ∧ w'.cell? ⟨bn, 2, none⟩ = some (.int .u64 xs1) ∧ w'.cell? ⟨bn, 3, none⟩ = some (.string xh) ∧ w'.cell? ⟨bn, 4, none⟩ = some (.string xd) ∧ w'.cell? ⟨bn, 5, none⟩ = some (.int .u64 xt) ∧ w'.cell? ⟨bn, 6, none⟩ = some (.int .u64 xq))) := Lib.hid (fun w' h => ⟨cells7 (HV10.out.next h), cells7 (HY10.out.next h)⟩)
            have hrf : idEq ⟨⟨false, 0, 0, ⟨#[]⟩, ⟨#[]⟩⟩, 0, 0⟩ ⟨⟨false, 0, 0, ⟨#[]⟩, ⟨#[]⟩⟩, 0, 0⟩ = true := HRFL.out zeroId
            refine wp_region_held_drew (S := (fun w' => (w'.cell? ⟨bv, 0, none⟩ = some (.bool false) ∧ w'.cell? ⟨bv, 1, none⟩ = some (.int .u64 0) ∧ w'.cell? ⟨bv, 2, none⟩ = some (.int .u64 0) ∧ w'.cell? ⟨bv, 3, none⟩ = some (.string ⟨#[]⟩) ∧ w'.cell? ⟨bv, 4, none⟩ = some (.string ⟨#[]⟩) ∧ w'.cell? ⟨bv, 5, none⟩ = some (.int .u64 0) ∧ w'.cell? ⟨bv, 6, none⟩ = some (.int .u64 0)) ∧ (w'.cell? ⟨bn, 0, none⟩ = some (.bool xi) ∧ w'.cell? ⟨bn, 1, none⟩ = some (.int .u64 xn) ∧ w'.cell? ⟨bn, 2, none⟩ = some (.int .u64 xs1) ∧ w'.cell? ⟨bn, 3, none⟩ = some (.string xh) ∧ w'.cell? ⟨bn, 4, none⟩ = some (.string xd) ∧ w'.cell? ⟨bn, 5, none⟩ = some (.int .u64 xt) ∧ w'.cell? ⟨bn, 6, none⟩ = some (.int .u64 xq)))) (by kernel_rfl) (KL.out _ HBd.out) (fun hHeld => ?_)
            first
            | (refine wpAnyH_take (i := 0) (oi := ({ dst := some 148, op := Op.move (Operand.tmp 19), type := 38, pos := "law.go:105", after := #[], guard := none })) (v := ?_) rfl (by kernel_rfl) (by kernel_rfl) (by kernel_rfl) (fun _ _ _ h => h) (Or.inl ⟨by rfl, ?_⟩) hHeld ?_
               rotate_left
               · intro w hSw
                 (try dsimp only at hSw)
                 go_simp
                 try with_reducible rfl
               try simp only [Act.put, List.setIfInBounds_toArray, List.set_cons_zero, List.set_cons_succ])
            | fail
            first
            | (refine wpAnyH_take (i := 1) (oi := ({ dst := some 149, op := Op.move (Operand.tmp 21), type := 38, pos := "law.go:105", after := #[], guard := none })) (v := ?_) rfl (by kernel_rfl) (by kernel_rfl) (by kernel_rfl) (fun _ _ _ h => h) (Or.inl ⟨by rfl, ?_⟩) hHeld ?_
               rotate_left
               · intro w hSw
                 (try dsimp only at hSw)
                 go_simp
                 try with_reducible rfl
               try simp only [Act.put, List.setIfInBounds_toArray, List.set_cons_zero, List.set_cons_succ])
            | fail
            first
            | (refine wpAnyH_take (i := 2) (oi := ({ dst := some 150, op := Op.binOp BinOp.neq 38 (Operand.tmp 148) (Operand.tmp 149) 38, type := 4, pos := "law.go:105", after := #[{ on := 0, ground := Ground.data }, { on := 1, ground := Ground.data }], guard := none })) (v := ?_) rfl (by kernel_rfl) (by kernel_rfl) (by kernel_rfl) (fun _ _ _ h => h) (Or.inl ⟨by rfl, ?_⟩) hHeld ?_
               rotate_left
               · intro w hSw
                 (try dsimp only at hSw)
                 go_simp
                 try with_reducible rfl
               try simp only [Act.put, List.setIfInBounds_toArray, List.set_cons_zero, List.set_cons_succ])
            | fail
            first
            | (refine wpAnyH_take (i := 3) (oi := ({ dst := some 151, op := Op.move (Operand.tmp 150), type := 4, pos := "law.go:105", after := #[{ on := 2, ground := Ground.data }], guard := none })) (v := ?_) rfl (by kernel_rfl) (by kernel_rfl) (by kernel_rfl) (fun _ _ _ h => h) (Or.inl ⟨by rfl, ?_⟩) hHeld ?_
               rotate_left
               · intro w hSw
                 (try dsimp only at hSw)
                 go_simp
                 try with_reducible rfl
               try simp only [Act.put, List.setIfInBounds_toArray, List.set_cons_zero, List.set_cons_succ])
            | fail
            first
            | (refine wpAnyH_take (i := 4) (oi := ({ dst := some 152, op := Op.move (Operand.tmp 21), type := 38, pos := "law.go:105", after := #[{ on := 3, ground := Ground.guard }], guard := some (3, false) })) (v := ?_) rfl (by kernel_rfl) (by kernel_rfl) (by kernel_rfl) (fun _ _ _ h => h) (Or.inl ⟨by rfl, ?_⟩) hHeld ?_
               rotate_left
               · intro w hSw
                 (try dsimp only at hSw)
                 go_simp
                 try with_reducible rfl
               try simp only [Act.put, List.setIfInBounds_toArray, List.set_cons_zero, List.set_cons_succ])
            | fail
            first
            | (refine wpAnyH_take (i := 5) (oi := ({ dst := some 153, op := Op.binOp BinOp.eql 38 (Operand.tmp 152) (Operand.const (Value.int IntKind.i64 0)) 38, type := 4, pos := "law.go:105", after := #[{ on := 4, ground := Ground.data }, { on := 3, ground := Ground.guard }], guard := some (3, false) })) (v := ?_) rfl (by kernel_rfl) (by kernel_rfl) (by kernel_rfl) (fun _ _ _ h => h) (Or.inl ⟨by rfl, ?_⟩) hHeld ?_
               rotate_left
               · intro w hSw
                 (try dsimp only at hSw)
                 go_simp
                 try with_reducible rfl
               try simp only [Act.put, List.setIfInBounds_toArray, List.set_cons_zero, List.set_cons_succ])
            | fail
            first
            | (refine wpAnyH_take (i := 6) (oi := ({ dst := some 154, op := Op.move (Operand.tmp 153), type := 4, pos := "law.go:105", after := #[{ on := 5, ground := Ground.data }, { on := 3, ground := Ground.chain }, { on := 3, ground := Ground.guard }], guard := some (3, false) })) (v := ?_) rfl (by kernel_rfl) (by kernel_rfl) (by kernel_rfl) (fun _ _ _ h => h) (Or.inl ⟨by rfl, ?_⟩) hHeld ?_
               rotate_left
               · intro w hSw
                 (try dsimp only at hSw)
                 go_simp
                 try with_reducible rfl
               try simp only [Act.put, List.setIfInBounds_toArray, List.set_cons_zero, List.set_cons_succ])
            | fail
            first
            | (refine wpAnyH_take (i := 7) (oi := ({ dst := some 155, op := Op.load 26 (Operand.tmp 18), type := 26, pos := "law.go:105", after := #[{ on := 6, ground := Ground.guard }], guard := some (6, true) })) (v := undef) rfl (by kernel_rfl) (by kernel_rfl) (by kernel_rfl) (fun _ _ _ h => h) (Or.inr ⟨by rfl, rfl⟩) hHeld ?_
               try simp only [Act.put, List.setIfInBounds_toArray, List.set_cons_zero, List.set_cons_succ])
            | fail
            first
            | (refine wpAnyH_take (i := 8) (oi := ({ dst := some 156, op := Op.call { callee := Callee.value (Operand.func 15), args := #[Operand.tmp 155], argTypes := #[26] }, type := 36, pos := "law.go:105", after := #[{ on := 7, ground := Ground.data }, { on := 6, ground := Ground.chain }, { on := 6, ground := Ground.guard }], guard := some (6, true) })) (v := undef) rfl (by kernel_rfl) (by kernel_rfl) (by kernel_rfl) (fun _ _ _ h => h) (Or.inr ⟨by rfl, rfl⟩) hHeld ?_
               try simp only [Act.put, List.setIfInBounds_toArray, List.set_cons_zero, List.set_cons_succ])
            | fail
            first
            | (refine wpAnyH_take (i := 9) (oi := ({ dst := some 157, op := Op.load 36 (Operand.tmp 20), type := 36, pos := "law.go:105", after := #[{ on := 6, ground := Ground.guard }], guard := some (6, true) })) (v := undef) rfl (by kernel_rfl) (by kernel_rfl) (by kernel_rfl) (fun _ _ _ h => h) (Or.inr ⟨by rfl, rfl⟩) hHeld ?_
               try simp only [Act.put, List.setIfInBounds_toArray, List.set_cons_zero, List.set_cons_succ])
            | fail
            first
            | (refine wpAnyH_take (i := 10) (oi := ({ dst := some 158, op := Op.binOp BinOp.neq 36 (Operand.tmp 156) (Operand.tmp 157) 36, type := 4, pos := "law.go:105", after := #[{ on := 8, ground := Ground.data }, { on := 9, ground := Ground.data }, { on := 6, ground := Ground.guard }], guard := some (6, true) })) (v := undef) rfl (by kernel_rfl) (by kernel_rfl) (by kernel_rfl) (fun _ _ _ h => h) (Or.inr ⟨by rfl, rfl⟩) hHeld ?_
               try simp only [Act.put, List.setIfInBounds_toArray, List.set_cons_zero, List.set_cons_succ])
            | fail
            first
            | (refine wpAnyH_take (i := 11) (oi := ({ dst := some 159, op := Op.pick (Operand.tmp 154) (Operand.tmp 158) (Operand.const (Value.bool false)), type := 4, pos := "law.go:105", after := #[{ on := 6, ground := Ground.data }, { on := 10, ground := Ground.data }, { on := 3, ground := Ground.guard }], guard := some (3, false) })) (v := ?_) rfl (by kernel_rfl) (by kernel_rfl) (by kernel_rfl) (fun _ _ _ h => h) (Or.inl ⟨by rfl, ?_⟩) hHeld ?_
               rotate_left
               · intro w hSw
                 (try dsimp only at hSw)
                 go_simp
                 try with_reducible rfl
               try simp only [Act.put, List.setIfInBounds_toArray, List.set_cons_zero, List.set_cons_succ])
            | fail
            first
            | (refine wpAnyH_take (i := 12) (oi := ({ dst := some 160, op := Op.pick (Operand.tmp 151) (Operand.const (Value.bool true)) (Operand.tmp 159), type := 4, pos := "law.go:105", after := #[{ on := 3, ground := Ground.data }, { on := 11, ground := Ground.data }], guard := none })) (v := ?_) rfl (by kernel_rfl) (by kernel_rfl) (by kernel_rfl) (fun _ _ _ h => h) (Or.inl ⟨by rfl, ?_⟩) hHeld ?_
               rotate_left
               · intro w hSw
                 (try dsimp only at hSw)
                 go_simp
                 try with_reducible rfl
               try simp only [Act.put, List.setIfInBounds_toArray, List.set_cons_zero, List.set_cons_succ])
            | fail
            first
            | (refine wpAnyH_take (i := 13) (oi := ({ dst := some 161, op := Op.move (Operand.tmp 160), type := 4, pos := "law.go:105", after := #[{ on := 12, ground := Ground.data }, { on := 8, ground := Ground.chain }], guard := none })) (v := ?_) rfl (by kernel_rfl) (by kernel_rfl) (by kernel_rfl) (fun _ _ _ h => h) (Or.inl ⟨by rfl, ?_⟩) hHeld ?_
               rotate_left
               · intro w hSw
                 (try dsimp only at hSw)
                 go_simp
                 try with_reducible rfl
               try simp only [Act.put, List.setIfInBounds_toArray, List.set_cons_zero, List.set_cons_succ])
            | fail
            first
            | (refine wpAnyH_take (i := 14) (oi := ({ dst := some 162, op := Op.move (Operand.tmp 21), type := 38, pos := "law.go:105", after := #[{ on := 13, ground := Ground.guard }], guard := some (13, false) })) (v := ?_) rfl (by kernel_rfl) (by kernel_rfl) (by kernel_rfl) (fun _ _ _ h => h) (Or.inl ⟨by rfl, ?_⟩) hHeld ?_
               rotate_left
               · intro w hSw
                 (try dsimp only at hSw)
                 go_simp
                 try with_reducible rfl
               try simp only [Act.put, List.setIfInBounds_toArray, List.set_cons_zero, List.set_cons_succ])
            | fail
            first
            | (refine wpAnyH_take (i := 15) (oi := ({ dst := some 163, op := Op.binOp BinOp.neq 38 (Operand.tmp 162) (Operand.const (Value.int IntKind.i64 0)) 38, type := 4, pos := "law.go:105", after := #[{ on := 14, ground := Ground.data }, { on := 13, ground := Ground.guard }], guard := some (13, false) })) (v := ?_) rfl (by kernel_rfl) (by kernel_rfl) (by kernel_rfl) (fun _ _ _ h => h) (Or.inl ⟨by rfl, ?_⟩) hHeld ?_
               rotate_left
               · intro w hSw
                 (try dsimp only at hSw)
                 go_simp
                 try with_reducible rfl
               try simp only [Act.put, List.setIfInBounds_toArray, List.set_cons_zero, List.set_cons_succ])
            | fail
            first
            | (refine wpAnyH_take (i := 16) (oi := ({ dst := some 164, op := Op.move (Operand.tmp 163), type := 4, pos := "law.go:105", after := #[{ on := 15, ground := Ground.data }, { on := 13, ground := Ground.chain }, { on := 13, ground := Ground.guard }], guard := some (13, false) })) (v := ?_) rfl (by kernel_rfl) (by kernel_rfl) (by kernel_rfl) (fun _ _ _ h => h) (Or.inl ⟨by rfl, ?_⟩) hHeld ?_
               rotate_left
               · intro w hSw
                 (try dsimp only at hSw)
                 go_simp
                 try with_reducible rfl
               try simp only [Act.put, List.setIfInBounds_toArray, List.set_cons_zero, List.set_cons_succ])
            | fail
            first
            | (refine wpAnyH_take (i := 17) (oi := ({ dst := some 165, op := Op.load 26 (Operand.tmp 18), type := 26, pos := "law.go:105", after := #[{ on := 16, ground := Ground.guard }], guard := some (16, true) })) (v := ?_) rfl (by kernel_rfl) (by kernel_rfl) (by kernel_rfl) (fun _ _ _ h => h) (Or.inl ⟨by rfl, ?_⟩) hHeld ?_
               rotate_left
               · intro w hSw
                 (try dsimp only at hSw)
                 go_simp
                 try with_reducible rfl
               try simp only [Act.put, List.setIfInBounds_toArray, List.set_cons_zero, List.set_cons_succ])
            | fail
            first
            | (refine wpAnyH_take (i := 18) (oi := ({ dst := some 166, op := Op.build 26 #[], type := 26, pos := "law.go:105", after := #[{ on := 16, ground := Ground.guard }], guard := some (16, true) })) (v := ?_) rfl (by kernel_rfl) (by kernel_rfl) (by kernel_rfl) (fun _ _ _ h => h) (Or.inl ⟨by rfl, ?_⟩) hHeld ?_
               rotate_left
               · intro w hSw
                 (try dsimp only at hSw)
                 go_simp
                 try with_reducible rfl
               try simp only [Act.put, List.setIfInBounds_toArray, List.set_cons_zero, List.set_cons_succ])
            | fail
            first
            | (refine wpAnyH_take (i := 19) (oi := ({ dst := some 167, op := Op.binOp BinOp.neq 26 (Operand.tmp 165) (Operand.tmp 166) 26, type := 4, pos := "law.go:105", after := #[{ on := 17, ground := Ground.data }, { on := 18, ground := Ground.data }, { on := 16, ground := Ground.guard }], guard := some (16, true) })) (v := ?_) rfl (by kernel_rfl) (by kernel_rfl) (by kernel_rfl) (fun _ _ _ h => h) (Or.inl ⟨by rfl, ?_⟩) hHeld ?_
               rotate_left
               · intro w hSw
                 (try dsimp only at hSw)
                 go_simp
                 try with_reducible rfl
               try simp only [Act.put, List.setIfInBounds_toArray, List.set_cons_zero, List.set_cons_succ])
            | fail
            first
            | (refine wpAnyH_take (i := 20) (oi := ({ dst := some 168, op := Op.pick (Operand.tmp 164) (Operand.tmp 167) (Operand.const (Value.bool false)), type := 4, pos := "law.go:105", after := #[{ on := 16, ground := Ground.data }, { on := 19, ground := Ground.data }, { on := 13, ground := Ground.guard }], guard := some (13, false) })) (v := ?_) rfl (by kernel_rfl) (by kernel_rfl) (by kernel_rfl) (fun _ _ _ h => h) (Or.inl ⟨by rfl, ?_⟩) hHeld ?_
               rotate_left
               · intro w hSw
                 (try dsimp only at hSw)
                 go_simp
                 try with_reducible rfl
               try simp only [Act.put, List.setIfInBounds_toArray, List.set_cons_zero, List.set_cons_succ])
            | fail
            first
            | (refine wpAnyH_take (i := 21) (oi := ({ dst := some 169, op := Op.pick (Operand.tmp 161) (Operand.const (Value.bool true)) (Operand.tmp 168), type := 4, pos := "law.go:105", after := #[{ on := 13, ground := Ground.data }, { on := 20, ground := Ground.data }], guard := none })) (v := ?_) rfl (by kernel_rfl) (by kernel_rfl) (by kernel_rfl) (fun _ _ _ h => h) (Or.inl ⟨by rfl, ?_⟩) hHeld ?_
               rotate_left
               · intro w hSw
                 (try dsimp only at hSw)
                 go_simp
                 try with_reducible rfl
               try simp only [Act.put, List.setIfInBounds_toArray, List.set_cons_zero, List.set_cons_succ])
            | fail
            refine wpAnyH_done (by kernel_rfl) ?_ _
            clear hHeld
            have HBE2 := Lib.hid HBd.out
            have hbE := HBE2.out
            have HM11 := Lib.hid (Mk.next HM10.out hbE)
            have HL11 := Lib.hid (HL10.out.next hbE)
            have HW11 := Lib.hid (below_next HW10.out HW10.out.size hbE)
            have HY11 := Lib.hid (HY10.out.next hbE)
            clear hbE HM10 HL10 HW10 HY10
            clear KL HBd HBE2 hrf HV10 HO10
            generalize W10.drew = W11 at *
            obtain ⟨f0, f1, f2, f3, f4, f5, f6⟩ := froz7 HL11.out
            obtain ⟨l0, l1, l2, l3, l4, l5, l6⟩ := cells7 HL11.out
            obtain ⟨x0, x1, x2, x3, x4, x5, x6⟩ := cells7 HY11.out
            have HL12 := Lib.hid (set7_blk HL11.out (.bool xi) (.int .u64 xn) (.int .u64 xs1) (.string xh) (.string xd) (.int .u64 xt) (.int .u64 xq))
            have HM12 := Lib.hid (mk_far7 HM11.out (Nat.ne_of_lt HLT.out.1) (.bool xi) (.int .u64 xn) (.int .u64 xs1) (.string xh) (.string xd) (.int .u64 xt) (.int .u64 xq))
            have HW12 := Lib.hid (set7_below HW11.out HLT.out.2 (.bool xi) (.int .u64 xn) (.int .u64 xs1) (.string xh) (.string xd) (.int .u64 xt) (.int .u64 xq))
            clear HM11 HL11 HW11 HY11
            go_upto_region 36 with (fail)
            clear f0 f1 f2 f3 f4 f5 f6 l0 l1 l2 l3 l4 l5 l6 x0 x1 x2 x3 x4 x5 x6
            generalize hG : set7 W11 gl (.bool xi) (.int .u64 xn) (.int .u64 xs1) (.string xh) (.string xd) (.int .u64 xt) (.int .u64 xq) = W12 at *
            unfold set7 at hG
            rw [hG]
            clear hG
            have HBd := Lib.hid (Below.refl W12.heap.size W12).drew
            have KL : Hid (∀ w', Below W12.heap.size W12 w' → w'.cell? ⟨gl, 0, none⟩ = some (.bool xi) ∧ w'.cell? ⟨gl, 1, none⟩ = some (.int .u64 xn) ∧ w'.cell? ⟨gl, 2, none⟩ = some (.int .u64 xs1) ∧ w'.cell? ⟨gl, 3, none⟩ = some (.string xh) ∧ w'.cell? ⟨gl, 4, none⟩ = some (.string xd) ∧ w'.cell? ⟨gl, 5, none⟩ = some (.int .u64 xt) ∧ w'.cell? ⟨gl, 6, none⟩ = some (.int .u64 xq)) := Lib.hid (fun w' h => cells7 (HL12.out.next h))
            have CLA := Lib.hid (fun (W' : World) (h : Below W12.heap.size W12 W') => last_any g ⟨⟨xi, xn, xs1, xh, xd⟩, xt, xq⟩ W' (Mk.next HM12.out h))
            have CAZ := Lib.hid (fun (W' : World) => as05_any ⟨⟨xi, xn, xs1, xh, xd⟩, xt, xq⟩ W')
            have hrf := HRFL.out ⟨⟨xi, xn, xs1, xh, xd⟩, xt, xq⟩
            go_region_held3 (fun w' => w'.cell? ⟨gl, 0, none⟩ = some (.bool xi) ∧ w'.cell? ⟨gl, 1, none⟩ = some (.int .u64 xn) ∧ w'.cell? ⟨gl, 2, none⟩ = some (.int .u64 xs1) ∧ w'.cell? ⟨gl, 3, none⟩ = some (.string xh) ∧ w'.cell? ⟨gl, 4, none⟩ = some (.string xd) ∧ w'.cell? ⟨gl, 5, none⟩ = some (.int .u64 xt) ∧ w'.cell? ⟨gl, 6, none⟩ = some (.int .u64 xq))
              (first | with_reducible exact KL.out _ HBd.out | with_reducible exact KL.out _ HBA.out | with_reducible exact KL.out _ HBB.out | fail)
              (first | (go_at_call 15; (with_reducible refine (CAZ.out _).mono ?_); rintro e wB ⟨rfl, hbB⟩; have HBB := Lib.hid (below_next HBA.out HBA.out.size hbB); clear hbB) | (go_at_call 31; (with_reducible refine (CLA.out _ HBd.out).mono ?_); rintro e wA ⟨rfl, hbA⟩; have HBA := Lib.hid (below_next HBd.out HBd.out.size hbA); clear hbA) | fail)
            have HMz := Lib.hid (Mk.next HM12.out HBB.out)
            have HLz := Lib.hid (HL12.out.next HBB.out)
            have HWz := Lib.hid (below_next HW12.out HW12.out.size HBB.out)
            clear KL CLA CAZ HBd HBA HBB HM12 HL12 HW12 hrf
            go_wp2_with fail
            go_roundw
            case rel => exact ⟨k + 1, ⟨⟨xi, xn, xs1, xh, xd⟩, xt, xq⟩, by omega, by omega, by go_num, HZQ, HMz, HLz, HWz⟩
            case measure => simp [intOf]; omega
          · have HZQ : Hid (0 ≤ vq ∧ vq ≤ 1099511627776) := Lib.hid hz
            clear hz
            have CN1 : Hid (Calls Tryd.prog 29 #[.pointer (some ⟨g, 0, none⟩), .int .u64 now] w6 fun e w' => e = .returned (.tuple #[.agg #[.bool vi, .int .u64 vn, .int .u64 vs, .string vh, .string vd, .int .u64 vt, .int .u64 vq], .int .i64 0]) ∧ Mk w' g ⟨⟨vi, vn, vs, vh, vd⟩, vt, vq⟩ true ∧ w6.grownBy w' (some g)) := Lib.hid (by
              have h := CNX.out
              rw [hP, show nv (⟨⟨vi, vn, vs, vh, vd⟩, vt, vq⟩, 0) = ⟨⟨vi, vn, vs, vh, vd⟩, vt, vq⟩ from if_pos rfl] at h
              exact h)
            have CN2 : Hid (∀ w', Calls Tryd.prog 34 #[.agg #[.bool xi, .int .u64 xn, .int .u64 xs1, .string xh, .string xd, .int .u64 xt, .int .u64 xq], .int .u64 now] w' fun e w1 => e = .returned (.tuple #[.agg #[.bool vi, .int .u64 vn, .int .u64 vs, .string vh, .string vd, .int .u64 vt, .int .u64 vq], .int .i64 0]) ∧ Below w'.heap.size w' w1) := Lib.hid (fun w' => by
              have h := CNR.out w'
              rw [hP] at h
              exact h)
            clear CNX CNR hP HXO
            go_wp2_with fail
            refine CN1.out.mono ?_
            rintro e w7 ⟨rfl, hm, ho⟩
            have HM7 := Lib.hid hm
            have HL7 := Lib.hid (blk_only HL6.out ho (Nat.ne_of_gt HLT.out.1))
            have HO7 := Lib.hid (blk_only HO6.out ho HNG.out)
            have HW7 := Lib.hid (below_only HW6.out ho hg HW6.out.size)
            clear hm ho HM6 HL6 HO6 HW6 CN1 p0 p1 p2 p3 p4 p5 p6 p7 p8
            have HV8 := Lib.hid (Blk.new w7 26 #[.bool vi, .int .u64 vn, .int .u64 vs, .string vh, .string vd, .int .u64 vt, .int .u64 vq])
            have HM8 : Hid (Mk (w7.alloc (.cells #[.bool vi, .int .u64 vn, .int .u64 vs, .string vh, .string vd, .int .u64 vt, .int .u64 vq] 26)) g ⟨⟨vi, vn, vs, vh, vd⟩, vt, vq⟩ true) := Lib.hid (Blk.alloc HM7.out _)
            have HL8 := Lib.hid (HL7.out.alloc (.cells #[.bool vi, .int .u64 vn, .int .u64 vs, .string vh, .string vd, .int .u64 vt, .int .u64 vq] 26))
            have HO8 := Lib.hid (HO7.out.alloc (.cells #[.bool vi, .int .u64 vn, .int .u64 vs, .string vh, .string vd, .int .u64 vt, .int .u64 vq] 26))
            have HW8 := Lib.hid (HW7.out.alloc HW7.out.size (.cells #[.bool vi, .int .u64 vn, .int .u64 vs, .string vh, .string vd, .int .u64 vt, .int .u64 vq] 26))
            clear HM7 HL7 HO7 HW7
            go_upto_region 32 with (fail)
            generalize w7.alloc (.cells #[.bool vi, .int .u64 vn, .int .u64 vs, .string vh, .string vd, .int .u64 vt, .int .u64 vq] 26) = W8 at *
            generalize w7.heap.size = bv at *
            obtain ⟨l0, l1, l2, l3, l4, l5, l6⟩ := cells7 HL8.out
            obtain ⟨p0, p1, p2, p3, p4, p5, p6, p7, p8⟩ := cells9 HO8.out
            go_wp2_with fail
            refine (CN2.out W8).mono ?_
            rintro e w9 ⟨rfl, hb9⟩
            have HM9 := Lib.hid (Mk.next HM8.out hb9)
            have HL9 := Lib.hid (HL8.out.next hb9)
            have HO9 := Lib.hid (HO8.out.next hb9)
            have HW9 := Lib.hid (below_next HW8.out HW8.out.size hb9)
            have HV9 := Lib.hid (HV8.out.next hb9)
            clear hb9 HM8 HL8 HO8 HW8 HV8
            clear CN2 l0 l1 l2 l3 l4 l5 l6
            clear p0 p1 p2 p3 p4 p5 p6 p7 p8
            have HY10 := Lib.hid (Blk.new w9 36 #[.bool vi, .int .u64 vn, .int .u64 vs, .string vh, .string vd, .int .u64 vt, .int .u64 vq])
            have HNY := Lib.hid (show w9.heap.size ≠ gl from Nat.ne_of_gt HL9.out.lt)
            have HM10 : Hid (Mk (w9.alloc (.cells #[.bool vi, .int .u64 vn, .int .u64 vs, .string vh, .string vd, .int .u64 vt, .int .u64 vq] 36)) g ⟨⟨vi, vn, vs, vh, vd⟩, vt, vq⟩ true) := Lib.hid (Blk.alloc HM9.out _)
            have HL10 := Lib.hid (HL9.out.alloc (.cells #[.bool vi, .int .u64 vn, .int .u64 vs, .string vh, .string vd, .int .u64 vt, .int .u64 vq] 36))
            have HO10 := Lib.hid (HO9.out.alloc (.cells #[.bool vi, .int .u64 vn, .int .u64 vs, .string vh, .string vd, .int .u64 vt, .int .u64 vq] 36))
            have HW10 := Lib.hid (HW9.out.alloc HW9.out.size (.cells #[.bool vi, .int .u64 vn, .int .u64 vs, .string vh, .string vd, .int .u64 vt, .int .u64 vq] 36))
            have HV10 := Lib.hid (HV9.out.alloc (.cells #[.bool vi, .int .u64 vn, .int .u64 vs, .string vh, .string vd, .int .u64 vt, .int .u64 vq] 36))
            clear HM9 HL9 HO9 HW9 HV9
            go_upto_region 33 with (fail)
            generalize w9.alloc (.cells #[.bool vi, .int .u64 vn, .int .u64 vs, .string vh, .string vd, .int .u64 vt, .int .u64 vq] 36) = W10 at *
            generalize w9.heap.size = bn at *
            have HBd := Lib.hid (Below.refl W10.heap.size W10).drew
            have KL : Hid (∀ w', Below W10.heap.size W10 w' → (w'.cell? ⟨bv, 0, none⟩ = some (.bool vi) ∧ w'.cell? ⟨bv, 1, none⟩ = some (.int .u64 vn) ∧ w'.cell? ⟨bv, 2, none⟩ = some (.int .u64 vs) ∧ w'.cell? ⟨bv, 3, none⟩ = some (.string vh) ∧ w'.cell? ⟨bv, 4, none⟩ = some (.string vd) ∧ w'.cell? ⟨bv, 5, none⟩ = some (.int .u64 vt) ∧ w'.cell? ⟨bv, 6, none⟩ = some (.int .u64 vq)) ∧ (w'.cell? ⟨bn, 0, none⟩ = some (.bool vi) ∧ w'.cell? ⟨bn, 1, none⟩ = some (.int .u64 vn) ∧ w'.cell? ⟨bn, 2, none⟩ = some (.int .u64 vs) ∧ w'.cell? ⟨bn, 3, none⟩ = some (.string vh) ∧ w'.cell? ⟨bn, 4, none⟩ = some (.string vd) ∧ w'.cell? ⟨bn, 5, none⟩ = some (.int .u64 vt) ∧ w'.cell? ⟨bn, 6, none⟩ = some (.int .u64 vq))) := Lib.hid (fun w' h => ⟨cells7 (HV10.out.next h), cells7 (HY10.out.next h)⟩)
            have CAV := Lib.hid (fun (W' : World) => as05_any ⟨⟨vi, vn, vs, vh, vd⟩, vt, vq⟩ W')
            have hrf := HRFL.out ⟨⟨vi, vn, vs, vh, vd⟩, vt, vq⟩
            refine wp_region_held_drew (S := (fun w' => (w'.cell? ⟨bv, 0, none⟩ = some (.bool vi) ∧ w'.cell? ⟨bv, 1, none⟩ = some (.int .u64 vn) ∧ w'.cell? ⟨bv, 2, none⟩ = some (.int .u64 vs) ∧ w'.cell? ⟨bv, 3, none⟩ = some (.string vh) ∧ w'.cell? ⟨bv, 4, none⟩ = some (.string vd) ∧ w'.cell? ⟨bv, 5, none⟩ = some (.int .u64 vt) ∧ w'.cell? ⟨bv, 6, none⟩ = some (.int .u64 vq)) ∧ (w'.cell? ⟨bn, 0, none⟩ = some (.bool vi) ∧ w'.cell? ⟨bn, 1, none⟩ = some (.int .u64 vn) ∧ w'.cell? ⟨bn, 2, none⟩ = some (.int .u64 vs) ∧ w'.cell? ⟨bn, 3, none⟩ = some (.string vh) ∧ w'.cell? ⟨bn, 4, none⟩ = some (.string vd) ∧ w'.cell? ⟨bn, 5, none⟩ = some (.int .u64 vt) ∧ w'.cell? ⟨bn, 6, none⟩ = some (.int .u64 vq)))) (by kernel_rfl) (KL.out _ HBd.out) (fun hHeld => ?_)
            first
            | (refine wpAnyH_take (i := 0) (oi := ({ dst := some 148, op := Op.move (Operand.tmp 19), type := 38, pos := "law.go:105", after := #[], guard := none })) (v := ?_) rfl (by kernel_rfl) (by kernel_rfl) (by kernel_rfl) (fun _ _ _ h => h) (Or.inl ⟨by rfl, ?_⟩) hHeld ?_
               rotate_left
               · intro w hSw
                 (try dsimp only at hSw)
                 go_simp
                 try with_reducible rfl
               try simp only [Act.put, List.setIfInBounds_toArray, List.set_cons_zero, List.set_cons_succ])
            | fail
            first
            | (refine wpAnyH_take (i := 1) (oi := ({ dst := some 149, op := Op.move (Operand.tmp 21), type := 38, pos := "law.go:105", after := #[], guard := none })) (v := ?_) rfl (by kernel_rfl) (by kernel_rfl) (by kernel_rfl) (fun _ _ _ h => h) (Or.inl ⟨by rfl, ?_⟩) hHeld ?_
               rotate_left
               · intro w hSw
                 (try dsimp only at hSw)
                 go_simp
                 try with_reducible rfl
               try simp only [Act.put, List.setIfInBounds_toArray, List.set_cons_zero, List.set_cons_succ])
            | fail
            first
            | (refine wpAnyH_take (i := 2) (oi := ({ dst := some 150, op := Op.binOp BinOp.neq 38 (Operand.tmp 148) (Operand.tmp 149) 38, type := 4, pos := "law.go:105", after := #[{ on := 0, ground := Ground.data }, { on := 1, ground := Ground.data }], guard := none })) (v := ?_) rfl (by kernel_rfl) (by kernel_rfl) (by kernel_rfl) (fun _ _ _ h => h) (Or.inl ⟨by rfl, ?_⟩) hHeld ?_
               rotate_left
               · intro w hSw
                 (try dsimp only at hSw)
                 go_simp
                 try with_reducible rfl
               try simp only [Act.put, List.setIfInBounds_toArray, List.set_cons_zero, List.set_cons_succ])
            | fail
            first
            | (refine wpAnyH_take (i := 3) (oi := ({ dst := some 151, op := Op.move (Operand.tmp 150), type := 4, pos := "law.go:105", after := #[{ on := 2, ground := Ground.data }], guard := none })) (v := ?_) rfl (by kernel_rfl) (by kernel_rfl) (by kernel_rfl) (fun _ _ _ h => h) (Or.inl ⟨by rfl, ?_⟩) hHeld ?_
               rotate_left
               · intro w hSw
                 (try dsimp only at hSw)
                 go_simp
                 try with_reducible rfl
               try simp only [Act.put, List.setIfInBounds_toArray, List.set_cons_zero, List.set_cons_succ])
            | fail
            first
            | (refine wpAnyH_take (i := 4) (oi := ({ dst := some 152, op := Op.move (Operand.tmp 21), type := 38, pos := "law.go:105", after := #[{ on := 3, ground := Ground.guard }], guard := some (3, false) })) (v := ?_) rfl (by kernel_rfl) (by kernel_rfl) (by kernel_rfl) (fun _ _ _ h => h) (Or.inl ⟨by rfl, ?_⟩) hHeld ?_
               rotate_left
               · intro w hSw
                 (try dsimp only at hSw)
                 go_simp
                 try with_reducible rfl
               try simp only [Act.put, List.setIfInBounds_toArray, List.set_cons_zero, List.set_cons_succ])
            | fail
            first
            | (refine wpAnyH_take (i := 5) (oi := ({ dst := some 153, op := Op.binOp BinOp.eql 38 (Operand.tmp 152) (Operand.const (Value.int IntKind.i64 0)) 38, type := 4, pos := "law.go:105", after := #[{ on := 4, ground := Ground.data }, { on := 3, ground := Ground.guard }], guard := some (3, false) })) (v := ?_) rfl (by kernel_rfl) (by kernel_rfl) (by kernel_rfl) (fun _ _ _ h => h) (Or.inl ⟨by rfl, ?_⟩) hHeld ?_
               rotate_left
               · intro w hSw
                 (try dsimp only at hSw)
                 go_simp
                 try with_reducible rfl
               try simp only [Act.put, List.setIfInBounds_toArray, List.set_cons_zero, List.set_cons_succ])
            | fail
            first
            | (refine wpAnyH_take (i := 6) (oi := ({ dst := some 154, op := Op.move (Operand.tmp 153), type := 4, pos := "law.go:105", after := #[{ on := 5, ground := Ground.data }, { on := 3, ground := Ground.chain }, { on := 3, ground := Ground.guard }], guard := some (3, false) })) (v := ?_) rfl (by kernel_rfl) (by kernel_rfl) (by kernel_rfl) (fun _ _ _ h => h) (Or.inl ⟨by rfl, ?_⟩) hHeld ?_
               rotate_left
               · intro w hSw
                 (try dsimp only at hSw)
                 go_simp
                 try with_reducible rfl
               try simp only [Act.put, List.setIfInBounds_toArray, List.set_cons_zero, List.set_cons_succ])
            | fail
            first
            | (refine wpAnyH_take (i := 7) (oi := ({ dst := some 155, op := Op.load 26 (Operand.tmp 18), type := 26, pos := "law.go:105", after := #[{ on := 6, ground := Ground.guard }], guard := some (6, true) })) (v := ?_) rfl (by kernel_rfl) (by kernel_rfl) (by kernel_rfl) (fun _ _ _ h => h) (Or.inl ⟨by rfl, ?_⟩) hHeld ?_
               rotate_left
               · intro w hSw
                 (try dsimp only at hSw)
                 go_simp
                 try with_reducible rfl
               try simp only [Act.put, List.setIfInBounds_toArray, List.set_cons_zero, List.set_cons_succ])
            | fail
            first
            | (refine wpAnyH_take (i := 9) (oi := ({ dst := some 157, op := Op.load 36 (Operand.tmp 20), type := 36, pos := "law.go:105", after := #[{ on := 6, ground := Ground.guard }], guard := some (6, true) })) (v := ?_) rfl (by kernel_rfl) (by kernel_rfl) (by kernel_rfl) (fun _ _ _ h => h) (Or.inl ⟨by rfl, ?_⟩) hHeld ?_
               rotate_left
               · intro w hSw
                 (try dsimp only at hSw)
                 go_simp
                 try with_reducible rfl
               try simp only [Act.put, List.setIfInBounds_toArray, List.set_cons_zero, List.set_cons_succ])
            | fail
            refine wpAnyH_ready (rs := [8]) (by kernel_rfl) (by simp) ?_
            refine AllReadyH.cons (o := ({ dst := some 156, op := Op.call { callee := Callee.value (Operand.func 15), args := #[Operand.tmp 155], argTypes := #[26] }, type := 36, pos := "law.go:105", after := #[{ on := 7, ground := Ground.data }, { on := 6, ground := Ground.chain }, { on := 6, ground := Ground.guard }], guard := some (6, true) })) rfl (fun K hK => ?_) AllReadyH.nil
            go_simp
            refine (CAV.out _).mono ?_
            rintro e wE ⟨rfl, hbE⟩
            have HBE2 := Lib.hid (below_next HBd.out HBd.out.size hbE)
            clear hbE
            refine hK.out _ _ ?_ (fun hHeld2 => ?_)
            · (try dsimp only)
              exact KL.out _ HBE2.out
            clear hK K hHeld
            rename _ => hHeld
            try simp only [Act.put, List.setIfInBounds_toArray, List.set_cons_zero, List.set_cons_succ]
            first
            | (refine wpAnyH_take (i := 10) (oi := ({ dst := some 158, op := Op.binOp BinOp.neq 36 (Operand.tmp 156) (Operand.tmp 157) 36, type := 4, pos := "law.go:105", after := #[{ on := 8, ground := Ground.data }, { on := 9, ground := Ground.data }, { on := 6, ground := Ground.guard }], guard := some (6, true) })) (v := ?_) rfl (by kernel_rfl) (by kernel_rfl) (by kernel_rfl) (fun _ _ _ h => h) (Or.inl ⟨by rfl, ?_⟩) hHeld ?_
               rotate_left
               · intro w hSw
                 (try dsimp only at hSw)
                 go_simp
                 try with_reducible rfl
               try simp only [Act.put, List.setIfInBounds_toArray, List.set_cons_zero, List.set_cons_succ])
            | fail
            first
            | (refine wpAnyH_take (i := 11) (oi := ({ dst := some 159, op := Op.pick (Operand.tmp 154) (Operand.tmp 158) (Operand.const (Value.bool false)), type := 4, pos := "law.go:105", after := #[{ on := 6, ground := Ground.data }, { on := 10, ground := Ground.data }, { on := 3, ground := Ground.guard }], guard := some (3, false) })) (v := ?_) rfl (by kernel_rfl) (by kernel_rfl) (by kernel_rfl) (fun _ _ _ h => h) (Or.inl ⟨by rfl, ?_⟩) hHeld ?_
               rotate_left
               · intro w hSw
                 (try dsimp only at hSw)
                 go_simp
                 try with_reducible rfl
               try simp only [Act.put, List.setIfInBounds_toArray, List.set_cons_zero, List.set_cons_succ])
            | fail
            first
            | (refine wpAnyH_take (i := 12) (oi := ({ dst := some 160, op := Op.pick (Operand.tmp 151) (Operand.const (Value.bool true)) (Operand.tmp 159), type := 4, pos := "law.go:105", after := #[{ on := 3, ground := Ground.data }, { on := 11, ground := Ground.data }], guard := none })) (v := ?_) rfl (by kernel_rfl) (by kernel_rfl) (by kernel_rfl) (fun _ _ _ h => h) (Or.inl ⟨by rfl, ?_⟩) hHeld ?_
               rotate_left
               · intro w hSw
                 (try dsimp only at hSw)
                 go_simp
                 try with_reducible rfl
               try simp only [Act.put, List.setIfInBounds_toArray, List.set_cons_zero, List.set_cons_succ])
            | fail
            first
            | (refine wpAnyH_take (i := 13) (oi := ({ dst := some 161, op := Op.move (Operand.tmp 160), type := 4, pos := "law.go:105", after := #[{ on := 12, ground := Ground.data }, { on := 8, ground := Ground.chain }], guard := none })) (v := ?_) rfl (by kernel_rfl) (by kernel_rfl) (by kernel_rfl) (fun _ _ _ h => h) (Or.inl ⟨by rfl, ?_⟩) hHeld ?_
               rotate_left
               · intro w hSw
                 (try dsimp only at hSw)
                 go_simp
                 try with_reducible rfl
               try simp only [Act.put, List.setIfInBounds_toArray, List.set_cons_zero, List.set_cons_succ])
            | fail
            first
            | (refine wpAnyH_take (i := 14) (oi := ({ dst := some 162, op := Op.move (Operand.tmp 21), type := 38, pos := "law.go:105", after := #[{ on := 13, ground := Ground.guard }], guard := some (13, false) })) (v := ?_) rfl (by kernel_rfl) (by kernel_rfl) (by kernel_rfl) (fun _ _ _ h => h) (Or.inl ⟨by rfl, ?_⟩) hHeld ?_
               rotate_left
               · intro w hSw
                 (try dsimp only at hSw)
                 go_simp
                 try with_reducible rfl
               try simp only [Act.put, List.setIfInBounds_toArray, List.set_cons_zero, List.set_cons_succ])
            | fail
            first
            | (refine wpAnyH_take (i := 15) (oi := ({ dst := some 163, op := Op.binOp BinOp.neq 38 (Operand.tmp 162) (Operand.const (Value.int IntKind.i64 0)) 38, type := 4, pos := "law.go:105", after := #[{ on := 14, ground := Ground.data }, { on := 13, ground := Ground.guard }], guard := some (13, false) })) (v := ?_) rfl (by kernel_rfl) (by kernel_rfl) (by kernel_rfl) (fun _ _ _ h => h) (Or.inl ⟨by rfl, ?_⟩) hHeld ?_
               rotate_left
               · intro w hSw
                 (try dsimp only at hSw)
                 go_simp
                 try with_reducible rfl
               try simp only [Act.put, List.setIfInBounds_toArray, List.set_cons_zero, List.set_cons_succ])
            | fail
            first
            | (refine wpAnyH_take (i := 16) (oi := ({ dst := some 164, op := Op.move (Operand.tmp 163), type := 4, pos := "law.go:105", after := #[{ on := 15, ground := Ground.data }, { on := 13, ground := Ground.chain }, { on := 13, ground := Ground.guard }], guard := some (13, false) })) (v := ?_) rfl (by kernel_rfl) (by kernel_rfl) (by kernel_rfl) (fun _ _ _ h => h) (Or.inl ⟨by rfl, ?_⟩) hHeld ?_
               rotate_left
               · intro w hSw
                 (try dsimp only at hSw)
                 go_simp
                 try with_reducible rfl
               try simp only [Act.put, List.setIfInBounds_toArray, List.set_cons_zero, List.set_cons_succ])
            | fail
            first
            | (refine wpAnyH_take (i := 17) (oi := ({ dst := some 165, op := Op.load 26 (Operand.tmp 18), type := 26, pos := "law.go:105", after := #[{ on := 16, ground := Ground.guard }], guard := some (16, true) })) (v := undef) rfl (by kernel_rfl) (by kernel_rfl) (by kernel_rfl) (fun _ _ _ h => h) (Or.inr ⟨by rfl, rfl⟩) hHeld ?_
               try simp only [Act.put, List.setIfInBounds_toArray, List.set_cons_zero, List.set_cons_succ])
            | fail
            first
            | (refine wpAnyH_take (i := 18) (oi := ({ dst := some 166, op := Op.build 26 #[], type := 26, pos := "law.go:105", after := #[{ on := 16, ground := Ground.guard }], guard := some (16, true) })) (v := undef) rfl (by kernel_rfl) (by kernel_rfl) (by kernel_rfl) (fun _ _ _ h => h) (Or.inr ⟨by rfl, rfl⟩) hHeld ?_
               try simp only [Act.put, List.setIfInBounds_toArray, List.set_cons_zero, List.set_cons_succ])
            | fail
            first
            | (refine wpAnyH_take (i := 19) (oi := ({ dst := some 167, op := Op.binOp BinOp.neq 26 (Operand.tmp 165) (Operand.tmp 166) 26, type := 4, pos := "law.go:105", after := #[{ on := 17, ground := Ground.data }, { on := 18, ground := Ground.data }, { on := 16, ground := Ground.guard }], guard := some (16, true) })) (v := undef) rfl (by kernel_rfl) (by kernel_rfl) (by kernel_rfl) (fun _ _ _ h => h) (Or.inr ⟨by rfl, rfl⟩) hHeld ?_
               try simp only [Act.put, List.setIfInBounds_toArray, List.set_cons_zero, List.set_cons_succ])
            | fail
            first
            | (refine wpAnyH_take (i := 20) (oi := ({ dst := some 168, op := Op.pick (Operand.tmp 164) (Operand.tmp 167) (Operand.const (Value.bool false)), type := 4, pos := "law.go:105", after := #[{ on := 16, ground := Ground.data }, { on := 19, ground := Ground.data }, { on := 13, ground := Ground.guard }], guard := some (13, false) })) (v := ?_) rfl (by kernel_rfl) (by kernel_rfl) (by kernel_rfl) (fun _ _ _ h => h) (Or.inl ⟨by rfl, ?_⟩) hHeld ?_
               rotate_left
               · intro w hSw
                 (try dsimp only at hSw)
                 go_simp
                 try with_reducible rfl
               try simp only [Act.put, List.setIfInBounds_toArray, List.set_cons_zero, List.set_cons_succ])
            | fail
            first
            | (refine wpAnyH_take (i := 21) (oi := ({ dst := some 169, op := Op.pick (Operand.tmp 161) (Operand.const (Value.bool true)) (Operand.tmp 168), type := 4, pos := "law.go:105", after := #[{ on := 13, ground := Ground.data }, { on := 20, ground := Ground.data }], guard := none })) (v := ?_) rfl (by kernel_rfl) (by kernel_rfl) (by kernel_rfl) (fun _ _ _ h => h) (Or.inl ⟨by rfl, ?_⟩) hHeld ?_
               rotate_left
               · intro w hSw
                 (try dsimp only at hSw)
                 go_simp
                 try with_reducible rfl
               try simp only [Act.put, List.setIfInBounds_toArray, List.set_cons_zero, List.set_cons_succ])
            | fail
            refine wpAnyH_done (by kernel_rfl) ?_ _
            have hbE := HBE2.out
            have HM11 := Lib.hid (Mk.next HM10.out hbE)
            have HL11 := Lib.hid (HL10.out.next hbE)
            have HW11 := Lib.hid (below_next HW10.out HW10.out.size hbE)
            have HY11 := Lib.hid (HY10.out.next hbE)
            clear hbE HM10 HL10 HW10 HY10
            clear KL HBd HBE2 hrf HV10 HO10 CAV hHeld
            obtain ⟨f0, f1, f2, f3, f4, f5, f6⟩ := froz7 HL11.out
            obtain ⟨l0, l1, l2, l3, l4, l5, l6⟩ := cells7 HL11.out
            obtain ⟨x0, x1, x2, x3, x4, x5, x6⟩ := cells7 HY11.out
            have HL12 := Lib.hid (set7_blk HL11.out (.bool vi) (.int .u64 vn) (.int .u64 vs) (.string vh) (.string vd) (.int .u64 vt) (.int .u64 vq))
            have HM12 := Lib.hid (mk_far7 HM11.out (Nat.ne_of_lt HLT.out.1) (.bool vi) (.int .u64 vn) (.int .u64 vs) (.string vh) (.string vd) (.int .u64 vt) (.int .u64 vq))
            have HW12 := Lib.hid (set7_below HW11.out HLT.out.2 (.bool vi) (.int .u64 vn) (.int .u64 vs) (.string vh) (.string vd) (.int .u64 vt) (.int .u64 vq))
            clear HM11 HL11 HW11 HY11
            go_upto_region 36 with (fail)
            clear f0 f1 f2 f3 f4 f5 f6 l0 l1 l2 l3 l4 l5 l6 x0 x1 x2 x3 x4 x5 x6
            generalize hG : set7 wE gl (.bool vi) (.int .u64 vn) (.int .u64 vs) (.string vh) (.string vd) (.int .u64 vt) (.int .u64 vq) = W12 at *
            unfold set7 at hG
            rw [hG]
            clear hG
            have HBd := Lib.hid (Below.refl W12.heap.size W12).drew
            have KL : Hid (∀ w', Below W12.heap.size W12 w' → w'.cell? ⟨gl, 0, none⟩ = some (.bool vi) ∧ w'.cell? ⟨gl, 1, none⟩ = some (.int .u64 vn) ∧ w'.cell? ⟨gl, 2, none⟩ = some (.int .u64 vs) ∧ w'.cell? ⟨gl, 3, none⟩ = some (.string vh) ∧ w'.cell? ⟨gl, 4, none⟩ = some (.string vd) ∧ w'.cell? ⟨gl, 5, none⟩ = some (.int .u64 vt) ∧ w'.cell? ⟨gl, 6, none⟩ = some (.int .u64 vq)) := Lib.hid (fun w' h => cells7 (HL12.out.next h))
            have CLA := Lib.hid (fun (W' : World) (h : Below W12.heap.size W12 W') => last_any g ⟨⟨vi, vn, vs, vh, vd⟩, vt, vq⟩ W' (Mk.next HM12.out h))
            have CAZ := Lib.hid (fun (W' : World) => as05_any ⟨⟨vi, vn, vs, vh, vd⟩, vt, vq⟩ W')
            have hrf := HRFL.out ⟨⟨vi, vn, vs, vh, vd⟩, vt, vq⟩
            go_region_held3 (fun w' => w'.cell? ⟨gl, 0, none⟩ = some (.bool vi) ∧ w'.cell? ⟨gl, 1, none⟩ = some (.int .u64 vn) ∧ w'.cell? ⟨gl, 2, none⟩ = some (.int .u64 vs) ∧ w'.cell? ⟨gl, 3, none⟩ = some (.string vh) ∧ w'.cell? ⟨gl, 4, none⟩ = some (.string vd) ∧ w'.cell? ⟨gl, 5, none⟩ = some (.int .u64 vt) ∧ w'.cell? ⟨gl, 6, none⟩ = some (.int .u64 vq))
              (first | with_reducible exact KL.out _ HBd.out | with_reducible exact KL.out _ HBA.out | with_reducible exact KL.out _ HBB.out | fail)
              (first | (go_at_call 15; (with_reducible refine (CAZ.out _).mono ?_); rintro e wB ⟨rfl, hbB⟩; have HBB := Lib.hid (below_next HBA.out HBA.out.size hbB); clear hbB) | (go_at_call 31; (with_reducible refine (CLA.out _ HBd.out).mono ?_); rintro e wA ⟨rfl, hbA⟩; have HBA := Lib.hid (below_next HBd.out HBd.out.size hbA); clear hbA) | fail)
            have HMz := Lib.hid (Mk.next HM12.out HBB.out)
            have HLz := Lib.hid (HL12.out.next HBB.out)
            have HWz := Lib.hid (below_next HW12.out HW12.out.size HBB.out)
            clear KL CLA CAZ HBd HBA HBB HM12 HL12 HW12 hrf
            go_wp2_with fail
            go_roundw
            case rel => exact ⟨k + 1, ⟨⟨vi, vn, vs, vh, vd⟩, vt, vq⟩, by omega, by omega, by go_num, HZQ, HMz, HLz, HWz⟩
            case measure => simp [intOf]; omega
end Go.Proofs.YtbgcbcnidjlhnaaDoor.IdentMakes
