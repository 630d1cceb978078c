/- The contracts of bytes.Equal, cbor.same, cbor.Same. -/
import Derived.Test.YthknkdphofjmhaaDoorCbRight
import Derived.Test.YthknkdphofjmhaaDoorShelf
namespace Go.Proofs.YthknkdphofjmhaaDoor.CbSame
open Go.RowKit Wd Cb CbCopy CbRight U8V

theorem equal_any (A A' : Option Addr) (B c c' : Nat) (xs ys : List Int) (w : World) (h1 : Lst w B A (u8s xs)) (h2 : Lst w B A' (u8s ys)) (hx : St.bts xs) (hy : St.bts ys) :
    Calls Tryd.prog 42 #[.slice A xs.length c, .slice A' ys.length c'] w fun e w' => e = .returned (.bool (xs == ys)) ∧ w' = w := by
  have k1 := run_string (P := Tryd.prog) h1 23 5 9 Tryd.underlying23 Tryd.underlying5 Tryd.underlying9 c
  have k2 := run_string (P := Tryd.prog) h2 23 5 9 Tryd.underlying23 Tryd.underlying5 Tryd.underlying9 c'
  refine (Tryd.bytes_Equal _ _ xs ys w k1 k2).mono ?_
  rintro e w' ⟨rfl, rfl⟩
  refine ⟨ret_bool ?_, rfl⟩
  rw [Bool.eq_iff_iff, beq_iff_eq, beq_iff_eq]
  exact ⟨St.map_inj xs ys hx hy, fun h => by rw [h]⟩

theorem sames_no : ∀ (l m : List Itm) (k : Nat) (h : k < l.length) (h' : k < m.length), same l[k] m[k] = false → sames l m = false
  | x :: l, y :: m, 0, _, _, e => by simp at e; simp [sames, e]
  | x :: l, y :: m, k + 1, h, h', e => by simp [sames, sames_no l m k (by simpa using h) (by simpa using h') (by simpa using e)]
theorem sames_snoc : ∀ (l m : List Itm) (k : Nat) (h : k < l.length) (h' : k < m.length), sames (l.take (k + 1)) (m.take (k + 1)) = (sames (l.take k) (m.take k) && same l[k] m[k])
  | x :: l, y :: m, 0, _, _ => by simp [sames]
  | x :: l, y :: m, k + 1, h, h' => by
    have := sames_snoc l m k (by simpa using h) (by simpa using h')
    simp only [List.take_succ_cons, sames, List.getElem_cons_succ, this, Bool.and_assoc]
theorem same_parts (x y : Itm) : same x y = (x.kind == y.kind && x.num == y.num && x.bs == y.bs && sames x.sub y.sub) := by cases x; cases y; rfl
theorem sames_len (l m : List Itm) (h : l.length ≠ m.length) : sames l m = false := by
  cases h' : sames l m
  · rfl
  · exact absurd (congrArg List.length ((sames_iff l m).1 h')) h

/-- An item at an address: its four cells. -/
def At (w : World) (hi : Nat) (x : Itm) (b o : Nat) : Prop := b < hi ∧ ∃ A c A' c', w.cell? ⟨b, o, none⟩ = some (.int .i64 x.kind) ∧ w.cell? ⟨b, o + 1, none⟩ = some (.int .u64 x.num) ∧
  w.cell? ⟨b, o + 2, none⟩ = some (.slice A x.bs.length c) ∧ w.cell? ⟨b, o + 3, none⟩ = some (.slice A' x.sub.length c') ∧
  (-9223372036854775808 ≤ x.kind ∧ x.kind ≤ 9223372036854775807) ∧ (0 ≤ x.num ∧ x.num ≤ 18446744073709551615) ∧ St.bts x.bs ∧ x.bs.length ≤ c ∧ c ≤ maxLen ∧ Seg w 0 hi A (u8s x.bs) ∧
  x.sub.length ≤ c' ∧ c' ≤ maxLen ∧ ItemsV w 0 hi x.sub A'
theorem At.below {w w' : World} {hi b o : Nat} {x : Itm} (h : At w hi x b o) (hb : Below hi w w') : At w' hi x b o := by
  obtain ⟨h0, A, c, A', c', e0, e1, e2, e3, q1, q2, q3, q4, q5, q6, q7, q8, q9⟩ := h
  exact ⟨h0, A, c, A', c', (hb.cell (p := ⟨b, o, none⟩) h0).trans e0, (hb.cell (p := ⟨b, o + 1, none⟩) h0).trans e1, (hb.cell (p := ⟨b, o + 2, none⟩) h0).trans e2, (hb.cell (p := ⟨b, o + 3, none⟩) h0).trans e3, q1, q2, q3, q4, q5, q6.below hb, q7, q8, q9.below hb⟩
theorem At.of_items {w : World} {hi : Nat} {l : List Itm} {A : Option Addr} (h : ItemsV w 0 hi l A) {k : Nat} (hk : k < l.length) : ∃ b o, A = some ⟨b, o, none⟩ ∧ At w hi l[k] b (o + k * 4) := by
  obtain ⟨b, o, A1, n1, A2, n2, e, _, hb, e0, e1, e2, e3, q⟩ := h.at_ hk
  exact ⟨b, o, e, hb, A1, n1, A2, n2, e0, e1, e2, e3, q⟩

set_option maxRecDepth 100000 in
set_option maxHeartbeats 2000000 in
theorem same_any (N : Nat) : ∀ (x y : Itm) (b1 o1 b2 o2 g : Nat) (dp lf : Int) (w : World), deep x ≤ N → At w g x b1 o1 → At w g y b2 o2 → Blk w g 3 #[.int .i64 lf] → (deep x : Int) ≤ dp → dp ≤ 100000 → (size x : Int) ≤ lf → lf ≤ 4294967296 →
    Calls Tryd.prog 43 #[.pointer (some ⟨b1, o1, none⟩), .pointer (some ⟨b2, o2, none⟩), .int .i64 dp, .pointer (some ⟨g, 0, none⟩)] w fun e w' =>
      e = .returned (.bool (same x y)) ∧ Below g w w' ∧ ∃ r : Int, Hid (Blk w' g 3 #[.int .i64 r]) ∧ lf - size x ≤ r ∧ r ≤ lf := by
  induction N with
  | zero => intro x y b1 o1 b2 o2 g dp lf w hN; have := deep_pos x; omega
  | succ N ih =>
    intro x y b1 o1 b2 o2 g dp lf w hN hx hy hB h0 h1 h2 h3
    have hsp := size_pos x
    have hdp := deep_pos x
    have hss := Nat.le_of_eq (size_sub x)
    have hss' := Nat.le_of_eq (size_sub x).symm
    have hds := Nat.le_of_eq (deep_sub x)
    have hds' := Nat.le_of_eq (deep_sub x).symm
    have hpa := same_parts x y
    have HB := Lib.hid hB
    have HX := Lib.hid hx
    have HY := Lib.hid hy
    have hcell : w.cell? ⟨g, 0, none⟩ = some (.int .i64 lf) := by simpa using hB.cell 0
    have hfr := hB.frozen 0
    have HB1 : Hid (Blk (w.setCell ⟨g, 0, none⟩ (.int .i64 (lf - 1))) g 3 #[.int .i64 (lf - 1)]) := Lib.hid (by simpa using hB.set_ 0 (.int .i64 (lf - 1)))
    have HW1 := Lib.hid ((Below.refl g w).setCell (p := ⟨g, 0, none⟩) (Nat.le_refl _) (.int .i64 (lf - 1)))
    obtain ⟨hb1, A1, n1, A1', n1', e0, e1, e2, e3, q1, q2, q3, q4, q5, q6, q7, q8, q9⟩ := hx.below HW1.out
    obtain ⟨hb2, A2, n2, A2', n2', f0, f1, f2, f3, p1, p2, p3, p4, p5, p6, p7, p8, p9⟩ := hy.below HW1.out
    have d0 : (dp == 0) = false := by simp only [beq_eq_false_iff_ne, ne_eq]; omega
    have d1 : (lf == 0) = false := by simp only [beq_eq_false_iff_ne, ne_eq]; omega
    clear hx hy hB
    have CE := Lib.hid (fun (n : Nat) => equal_any A1 A2 g n1 n2 x.bs y.bs ((w.setCell ⟨g, 0, none⟩ (.int .i64 (lf - 1))).drewN n) ((q6.drewN n).lst) ((p6.drewN n).lst) q3 p3)
    have HPA := Lib.hid hpa
    have HS1 := Lib.hid q9
    have HS2 := Lib.hid p9
    clear hpa q9 p9 q6 p6
    unfold maxLen at q8 p8
    go_enter Tryd.func43, Tryd.ntmps43
    go_wp2_with fail
    generalize w.setCell ⟨g, 0, none⟩ (.int .i64 (lf - 1)) = W1 at *
    clear hcell hfr
    by_cases c0 : x.kind = y.kind
    · have c0a : (x.kind != y.kind) = false := by simpa using c0
      have C0 := Lib.hid c0
      clear c0
      by_cases c1 : x.num = y.num
      · have c1a : (x.num != y.num) = false := by simpa using c1
        have C1 := Lib.hid c1
        clear c1
        by_cases c2 : x.bs = y.bs
        · have c2a : (x.bs == y.bs) = true := by simpa using c2
          have C2 := Lib.hid c2
          clear c2
          by_cases c3 : x.sub.length = y.sub.length
          · have c3a : ((x.sub.length : Int) != (y.sub.length : Int)) = false := by rw [c3]; simp
            have C3 := Lib.hid c3
            clear c3
            go_quiet ((go_at_call 42; with_reducible exact Calls.quiet_of_same (CE.out _)))
            have HB2 := Lib.hid (Blk.drewN HB1.out nq)
            have HW2 := Lib.hid (below_drewNv HW1.out nq)
            have HE : Hid (∀ p : Addr, (W1.drewN nq).cell? p = W1.cell? p) := Lib.hid (fun _ => rfl)
            have g0 : (W1.drewN nq).cell? ⟨b1, o1 + 3, none⟩ = some (.slice A1' x.sub.length n1') := e3
            have g1 : (W1.drewN nq).cell? ⟨b2, o2 + 3, none⟩ = some (.slice A2' y.sub.length n2') := f3
            generalize W1.drewN nq = W2 at *
            clear e0 e1 e2 e3 f0 f1 f2 f3 CE HB1
            go_wp2_with fail
            have HI1 : Hid (ItemsV W2 0 g x.sub A1') := Lib.hid (HS1.out.keep fun p _ _ => HE.out p)
            have HI2 : Hid (ItemsV W2 0 g y.sub A2') := Lib.hid (HS2.out.keep fun p _ _ => HE.out p)
            have HG0 := Lib.hid g0
            have HG1 := Lib.hid g1
            clear g0 g1 HS1 HS2 HE c0a c1a c2a c3a d0 d1
            go_loopw [73] (fun i wr => ∃ (j : Nat) (r : Int), j ≤ x.sub.length ∧ i = .int .i64 j ∧ Hid (Blk wr g 3 #[.int .i64 r]) ∧ lf - 1 - sizes (x.sub.take j) ≤ r ∧ r ≤ lf - 1 ∧ Hid (sames (x.sub.take j) (y.sub.take j) = true) ∧ Hid (Below g W2 wr)) (fun i _ => x.sub.length - (intOf i).toNat)
            case atStart => exact ⟨0, lf - 1, by omega, rfl, HB2, by simp [sizes], by omega, Lib.hid (by simp [sames]), Lib.hid (Below.refl _ _)⟩
            case round =>
              obtain ⟨j, r, hj, rfl, HBj, hr1, hr2, HSj, HWj⟩ := hrel
              clear HB2
              by_cases hlt : j < x.sub.length
              · have hlt2 : j < y.sub.length := by have := C3.out; omega
                obtain ⟨bb, oo, ea, hA1⟩ := At.of_items (HI1.out.below HWj.out) hlt
                obtain ⟨bb', oo', eb, hA2⟩ := At.of_items (HI2.out.below HWj.out) hlt2
                have g0 : wr.cell? ⟨b1, o1 + 3, none⟩ = some (.slice (some ⟨bb, oo, none⟩) x.sub.length n1') := by rw [← ea]; exact (HWj.out.cell (p := ⟨b1, o1 + 3, none⟩) hb1).trans HG0.out
                have g1 : wr.cell? ⟨b2, o2 + 3, none⟩ = some (.slice (some ⟨bb', oo', none⟩) y.sub.length n2') := by rw [← eb]; exact (HWj.out.cell (p := ⟨b2, o2 + 3, none⟩) hb2).trans HG1.out
                have hs1 := size_at x.sub j hlt
                have hs2 := Nat.le_of_eq (sizes_snoc x.sub j hlt)
                have hs2' := Nat.le_of_eq (sizes_snoc x.sub j hlt).symm
                have hs3 := sizes_take_le x.sub (j + 1)
                have hd1 := deep_at x.sub j hlt
                have CI := Lib.hid (fun (W : World) (hW : Below g wr W) (hB : Blk W g 3 #[.int .i64 r]) => ih x.sub[j] y.sub[j] bb (oo + j * 4) bb' (oo' + j * 4) g (dp - 1) r W (by omega) (hA1.below hW) (hA2.below hW) hB (by omega) (by omega) (by omega) (by omega))
                have hno := sames_no x.sub y.sub j hlt hlt2
                have hsn := sames_snoc x.sub y.sub j hlt hlt2
                have HNO := Lib.hid hno
                have HSN := Lib.hid hsn
                have KC := Lib.hid (fun (W : World) (hW : Below g wr W) => And.intro ((hW.cell (p := ⟨b1, o1 + 3, none⟩) hb1).trans g0) ((hW.cell (p := ⟨b2, o2 + 3, none⟩) hb2).trans g1))
                have j0 : (0 : Int) ≤ (j : Int) := by omega
                have j1 : (j : Int) < (x.sub.length : Int) := by omega
                have j2 : (j : Int) < (y.sub.length : Int) := by omega
                have HBd := Lib.hid ((Below.refl g wr).drew)
                have hwr : IntKind.i64.wrap (dp - 1) = dp - 1 := by rw [IntKind.wrap_i64]; omega
                have HWR := Lib.hid hwr
                clear hno hsn hA1 hA2 ea eb g0 g1 hwr
                go_wp2_with fail
                have hwr := HWR.out
                go_region_held3 (fun w' => w'.cell? ⟨b1, o1 + 3, none⟩ = some (.slice (some ⟨bb, oo, none⟩) x.sub.length n1') ∧ w'.cell? ⟨b2, o2 + 3, none⟩ = some (.slice (some ⟨bb', oo', none⟩) y.sub.length n2'))
                  (first | exact KC.out _ HBd.out | exact KC.out _ HB3.out)
                  (first | (go_at_call 43; refine (CI.out _ HBd.out HBj.out.drew).mono ?_; rintro e w3 ⟨rfl, hb3, r3, HR3, h31, h32⟩; have HB3 := Lib.hid (HBd.out.trans hb3); clear hb3))
                have HWn := Lib.hid (HWj.out.trans HB3.out)
                clear hwr HB3 HBj HWj CI KC
                cases hsm : same x.sub[j] y.sub[j]
                · have HE := Lib.hid (HNO.out hsm)
                  clear hsm
                  go_wp2_with fail
                  go_ret
                  exact ⟨ret_bool (by rw [HPA.out, HE.out]; simp), HW2.out.trans HWn.out, r3, HR3, by omega, by omega⟩
                · have HE : Hid (sames (x.sub.take (j + 1)) (y.sub.take (j + 1)) = true) := Lib.hid (by rw [HSN.out, HSj.out, hsm]; rfl)
                  clear hsm
                  go_wp2_with fail
                  go_roundw
                  case rel => exact ⟨j + 1, r3, by omega, by go_num, HR3, by omega, by omega, HE, HWn⟩
                  case measure => simp [intOf]; omega
              · obtain rfl : j = x.sub.length := by omega
                have hsj := HSj.out
                have hsz := congrArg sizes (take_all x.sub)
                rw [take_all, C3.out, take_all] at hsj
                have HE := Lib.hid hsj
                clear hsj
                go_wp2_with fail
                go_ret
                exact ⟨ret_bool (by rw [HPA.out, HE.out, C0.out, C1.out, C2.out]; simp), HW2.out.trans HWj.out, r, HBj, by omega, by omega⟩
          · have c3a : ((x.sub.length : Int) != (y.sub.length : Int)) = true := by simp only [bne_iff_ne, ne_eq]; omega
            have HNO := Lib.hid (sames_len _ _ c3)
            clear c3
            go_quiet ((go_at_call 42; with_reducible exact Calls.quiet_of_same (CE.out _)))
            go_wp2_with fail
            go_ret
            exact ⟨ret_bool (by rw [HPA.out, HNO.out]; simp), below_drewNv HW1.out _, _, Lib.hid (Blk.drewN HB1.out _), by omega, by omega⟩
        · have c2a : (x.bs == y.bs) = false := by simpa using c2
          clear c2
          go_quiet ((go_at_call 42; with_reducible exact Calls.quiet_of_same (CE.out _)))
          go_wp2_with fail
          go_ret
          exact ⟨ret_bool (by rw [HPA.out, c2a]; simp), below_drewNv HW1.out _, _, Lib.hid (Blk.drewN HB1.out _), by omega, by omega⟩
      · have c1a : (x.num != y.num) = true := by simpa using c1
        have c1b : (x.num == y.num) = false := by simpa using c1
        clear c1
        go_quiet (fail)
        go_wp2_with fail
        go_ret
        exact ⟨ret_bool (by rw [HPA.out, c1b]; simp), below_drewNv HW1.out _, _, Lib.hid (Blk.drewN HB1.out _), by omega, by omega⟩
    · have c0a : (x.kind != y.kind) = true := by simpa using c0
      have c0b : (x.kind == y.kind) = false := by simpa using c0
      clear c0
      go_quiet (fail)
      go_wp2_with fail
      go_ret
      exact ⟨ret_bool (by rw [HPA.out, c0b]; simp), below_drewNv HW1.out _, _, Lib.hid (Blk.drewN HB1.out _), by omega, by omega⟩

set_option maxHeartbeats 1000000 in
theorem sameTop_any (x y : Itm) (v u : Value) (B : Nat) (w : World) (hv : ItemV w 0 B x v) (hu : ItemV w 0 B y u) (hB : B ≤ w.heap.size) (hs : size x ≤ 2147483647) (hd : deep x ≤ 65537) :
    Calls Tryd.prog 19 #[v, u] w fun e w' => e = .returned (.bool (same x y)) ∧ Below w.heap.size w w' := by
  obtain ⟨A, c, A', c', rfl, hk, hn, hb, h1, h2, h3, h4, h5, h6⟩ := hv.open_
  obtain ⟨D, d, D', d', rfl, gk, gn, gb, g1, g2, g3, g4, g5, g6⟩ := hu.open_
  obtain ⟨W, hW⟩ : ∃ W, ((w.alloc (.cells #[.int .i64 x.kind, .int .u64 x.num, .slice A x.bs.length c, .slice A' x.sub.length c'] 26)).alloc (.cells #[.int .i64 y.kind, .int .u64 y.num, .slice D y.bs.length d, .slice D' y.sub.length d'] 26)).alloc (.cells #[.int .i64 2147483647] 3) = W := ⟨_, rfl⟩
  have hb0 : Below w.heap.size w W := hW ▸ ((((Below.refl _ _).alloc (Nat.le_refl _) _).alloc (by simp) _).alloc (by simp; omega) _)
  have hb1 : Blk W w.heap.size 26 #[.int .i64 x.kind, .int .u64 x.num, .slice A x.bs.length c, .slice A' x.sub.length c'] := hW ▸ (((Blk.new _ _ _).alloc _).alloc _)
  have hb2 : Blk W (w.heap.size + 1) 26 #[.int .i64 y.kind, .int .u64 y.num, .slice D y.bs.length d, .slice D' y.sub.length d'] := by
    have := (Blk.new (w.alloc (.cells #[.int .i64 x.kind, .int .u64 x.num, .slice A x.bs.length c, .slice A' x.sub.length c'] 26)) 26 #[.int .i64 y.kind, .int .u64 y.num, .slice D y.bs.length d, .slice D' y.sub.length d']).alloc (.cells #[.int .i64 2147483647] 3)
    rw [World.size_alloc, hW] at this
    exact this
  have hb3 : Blk W (w.heap.size + 2) 3 #[.int .i64 2147483647] := by
    have := Blk.new ((w.alloc (.cells #[.int .i64 x.kind, .int .u64 x.num, .slice A x.bs.length c, .slice A' x.sub.length c'] 26)).alloc (.cells #[.int .i64 y.kind, .int .u64 y.num, .slice D y.bs.length d, .slice D' y.sub.length d'] 26)) 3 #[.int .i64 2147483647]
    rw [World.size_alloc, World.size_alloc, hW] at this
    exact this
  have hx : At W (w.heap.size + 2) x w.heap.size 0 := ⟨by omega, A, c, A', c', by simpa using hb1.cell 0, by simpa using hb1.cell 1, by simpa using hb1.cell 2, by simpa using hb1.cell 3, hk, hn, hb, h1, h2, (h3.below (hb0.mono hB)).more (Nat.le_refl _) (by omega), h4, h5, (h6.below (hb0.mono hB)).more (Nat.le_refl _) (by omega)⟩
  have hy : At W (w.heap.size + 2) y (w.heap.size + 1) 0 := ⟨by omega, D, d, D', d', by simpa using hb2.cell 0, by simpa using hb2.cell 1, by simpa using hb2.cell 2, by simpa using hb2.cell 3, gk, gn, gb, g1, g2, (g3.below (hb0.mono hB)).more (Nat.le_refl _) (by omega), g4, g5, (g6.below (hb0.mono hB)).more (Nat.le_refl _) (by omega)⟩
  have CS := Lib.hid (same_any (deep x) x y w.heap.size 0 (w.heap.size + 1) 0 (w.heap.size + 2) 65537 2147483647 W (Nat.le_refl _) hx hy hb3 (by omega) (by omega) (by omega) (by omega))
  have HB0 := Lib.hid hb0
  have HW := Lib.hid hW
  clear hv hu h3 h6 g3 g6 hb0 hb1 hb2 hb3 hx hy hW
  go_enter Tryd.func19, Tryd.ntmps19
  go_wp2_with fail
  rw [HW.out]
  refine CS.out.mono ?_
  rintro e w1 ⟨rfl, hb1, r, HR, hr1, hr2⟩
  have HW1 := Lib.hid (HB0.out.trans (hb1.mono (by omega)))
  clear hb1
  go_wp2_with fail
  go_ret
  exact ⟨rfl, HW1.out⟩
end Go.Proofs.YthknkdphofjmhaaDoor.CbSame
