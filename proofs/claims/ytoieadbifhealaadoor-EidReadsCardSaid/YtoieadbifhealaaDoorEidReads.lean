/- The statement EidReads: its walk. -/
import Derived.Test.YtoieadbifhealaaDoorZr1
import Derived.Test.YtoieadbifhealaaDoorZr3
import Derived.Test.YtoieadbifhealaaDoorAs03
namespace Go.Proofs.YtoieadbifhealaaDoor.Eid
open Go.RowKit Wd Cb Great
set_option maxHeartbeats 1000000 in
theorem run_nm4 (w : World) (d : Nat) (i1 i2 : Bool) (n1 s1 n2 s2 : Int) (h1 d1 h2 d2 : ByteArray) :
    (Op.equalIn (d + 2) 52 (.agg #[.bool i1, .int .u64 n1, .int .u64 s1, .string h1, .string d1]) (.agg #[.bool i2, .int .u64 n2, .int .u64 s2, .string h2, .string d2])).run Tryd.prog w = .ok (nmEq ⟨i1, n1, s1, h1, d1⟩ ⟨i2, n2, s2, h2, d2⟩) w := by
  rw [run_equalIn_struct w (d + 1) 52 _ _ (by kernel_rfl) (by kernel_rfl)]
  simp only [Program.fieldsOf, Tryd.underlying52]
  unfold nmEq
  cases e1 : (i1 == i2) <;> cases e2 : (n1 == n2) <;> cases e3 : (s1 == s2) <;> cases e4 : (h1.toList == h2.toList) <;> cases e5 : (d1.toList == d2.toList) <;> go_simp
theorem grt_bs (x : Itm) (d lf : Int) (h : 0 ≤ grt x d lf) : x.bs.length ≤ 3000 := by
  rw [grt_sub] at h
  split at h
  · omega
  · omega
theorem grts_bs : ∀ (l : List Itm) (d lf : Int), 0 ≤ grts l d lf → ∀ k (h : k < l.length), (l[k]).bs.length ≤ 3000
  | [], _, _, _, k, h => by simp at h
  | x :: l, d, lf, h0, k, h => by
    unfold grts at h0
    split at h0
    · rename_i hc
      have hx : 0 ≤ grt x d lf := by
        have := (grts_le l d (grt x d lf) (by have := grt_le x d lf hc; omega)).2
        omega
      cases k with
      | zero => exact grt_bs x d lf hx
      | succ k => exact grts_bs l d _ h0 k (by simpa using h)
    · omega
theorem grt_subs (x : Itm) (d lf : Int) (h : 0 ≤ grt x d lf) : ∀ k (h : k < x.sub.length), (x.sub[k]).bs.length ≤ 3000 := by
  rw [grt_sub] at h
  split at h
  · omega
  · exact grts_bs _ _ _ h
/-- Numbers in their bounds. -/
def NumsOk (z : Itm) : Prop := (∀ k (h : k < z.sub.length), 0 ≤ (z.sub[k]).num ∧ (z.sub[k]).num ≤ 18446744073709551615) ∧ z.bs.length ≤ 3000
theorem second_ok {w : World} {hi : Nat} {x : Itm} {v : Value} (hv : ItemV w 0 hi x v) (hb : ∀ k (h : k < x.sub.length), (x.sub[k]).bs.length ≤ 3000) : NumsOk (x.sub.getD 1 (iN 0)) := by
  obtain ⟨_, _, _, _, _, _, _, _, _, _, _, _, _, h6⟩ := hv.open_
  by_cases hl : 1 < x.sub.length
  · simp only [List.getD, List.getElem?_eq_getElem hl, Option.getD_some]
    refine ⟨fun k hk => ?_, hb 1 hl⟩
    obtain ⟨_, _, _, _, _, _, _, _, _, _, _, _, _, _, _, _, _, _, _, _, _, p9⟩ := h6.at_ hl
    obtain ⟨_, _, _, _, _, _, _, _, _, _, _, _, _, _, q, _⟩ := p9.at_ hk
    exact q
  · simp only [List.getD, List.getElem?_eq_none (Nat.le_of_not_lt hl), Option.getD_none]
    exact ⟨fun k hk => absurd hk (Nat.not_lt_zero _), Nat.zero_le _⟩
theorem zcand_ok {z : Itm} (h : NumsOk z) {g : Nm} (hg : zcand z = some g) : g.ok := by
  unfold zcand at hg
  split at hg
  · rename_i hc
    injection hg with hg
    rw [← hg]
    have h0 := h.1 0 (by omega)
    have h1 := h.1 1 (by omega)
    simp only [List.getD, List.getElem?_eq_getElem (show 0 < z.sub.length by omega), List.getElem?_eq_getElem (show 1 < z.sub.length by omega), Option.getD_some]
    exact ⟨h0.1, h0.2, h1.1, h1.2, Nat.zero_le _, Nat.zero_le _⟩
  · split at hg
    · split at hg
      · injection hg with hg
        rw [← hg]
        have hs : (dtnStr z.bs).size ≤ 4294967280 := by
          unfold dtnStr
          rw [ByteArray.size_append, Lib.size_eq (strOfNums z.bs), strOfNums_data, List.length_map]
          show 4 + z.bs.length ≤ 4294967280
          have := h.2
          omega
        rw [(rp_is _ hs).1]
        exact parse_ok _ hs
      · cases hg
    · injection hg with hg
      rw [← hg]
      exact zero_ok
theorem r4_same {w : World} {hi : Nat} {x : Itm} {v : Value} (hv : ItemV w 0 hi x v) (hb : ∀ k (h : k < x.sub.length), (x.sub[k]).bs.length ≤ 3000) : r4Val x = rdI x ∧ r4Ok x = rdOk x := by
  have hz := second_ok hv hb
  refine r4_is x (fun g hg => ?_) (gI_ok _ hz.1 (by have := hz.2; unfold maxLen; omega))
  unfold rcand at hg
  split at hg
  · exact zcand_ok hz hg
  · cases hg
end Go.Proofs.YtoieadbifhealaaDoor.Eid
namespace Go.Proofs.YtoieadbifhealaaDoor.EidReads
open Go.RowKit Wd Eid Cb Great
attribute [local go_sem ↓ high] Eid.run_nm4

set_option maxRecDepth 100000 in
set_option maxHeartbeats 8000000 in
theorem walk (s : ByteArray) (x : Itm) (v : Value) (w : World) (hs : s.size ≤ maxLen) (hv : ItemV w 0 w.heap.size x v) (G : Gl w) : Calls Tryd.prog 8 #[.string s, v] w fun e w' => e = .returned (.bool true) ∧ Below w.heap.size w w' := by
  have CA := Lib.hid (fun w' g => alive_any w' g)
  have HG := Lib.hid G
  have CGr := Lib.hid (fun v w' h => great_rec (deep x) x v 1 400 w' (Nat.le_refl _) h (by omega) (by omega) (by omega) (by omega))
  have CP := Lib.hid (fun (h : s.size ≤ 300) w' g => parse_any s (by omega) w' g)
  have CP4 : Hid (s.size ≤ 300 → ∀ w', Calls Tryd.prog 39 #[.string s] w' fun e w1 => e = .returned (.tuple #[(parseOf s).val, .bool (isName s)]) ∧ Below w'.heap.size w' w1) := Lib.hid (fun h w' => by
    have c := parse04_any s (by omega) w'
    have hr := rp_is s (by omega)
    rw [hr.1, hr.2] at c
    exact c)
  have HPE : Hid ((isName s = true ∧ parseE s = 0) ∨ (isName s = false ∧ parseE s = 3)) := Lib.hid (by
    unfold parseE
    cases isName s
    · exact .inr ⟨rfl, rfl⟩
    · exact .inl ⟨rfl, rfl⟩)
  have HRE : Hid ((rdOk x = true ∧ rdE x = 0) ∨ (rdOk x = false ∧ rdE x = 3)) := Lib.hid (by
    unfold rdE
    cases rdOk x
    · exact .inr ⟨rfl, rfl⟩
    · exact .inl ⟨rfl, rfl⟩)
  have HGO : Hid (0 ≤ grt x 1 400 → size x ≤ 400 ∧ deep x ≤ 9 ∧ ∀ k (h : k < x.sub.length), (x.sub[k]).bs.length ≤ 3000) := Lib.hid (fun h => by
    have h1 := grt_ok x 1 400 (by omega) (by omega) h
    exact ⟨by omega, by omega, grt_subs x 1 400 h⟩)
  have CR := Lib.hid (fun hb v w' hv g => read_any x v w' hv hb g)
  have CAs : Hid (size x ≤ 400 → deep x ≤ 9 → ∀ v w', ItemV w' 0 w'.heap.size x v → Calls Tryd.prog 14 #[v, .int .i64 10] w' fun e w1 => ∃ k n A l c A' l' c', e = .returned (.agg #[.int .i64 k, .int .u64 n, .slice A l c, .slice A' l' c']) ∧ Hid (ItemV w1 0 w1.heap.size x (.agg #[.int .i64 k, .int .u64 n, .slice A l c, .slice A' l' c'])) ∧ Below w'.heap.size w' w1) := Lib.hid (fun h1 h2 v w' hv => by
    refine (As03.as_rec 100 x v w'.heap.size 10 w' (by omega) hv (Nat.le_refl _) (by omega) (by omega) (by omega)).mono ?_
    rintro e w1 ⟨v', rfl, HA, hb⟩
    have hi := HA.out.self
    obtain ⟨_, _, _, _, rfl, _⟩ := hi.open_
    exact ⟨_, _, _, _, _, _, _, _, rfl, Lib.hid hi, hb⟩)
  have CR4 : Hid (size x ≤ 400 → (∀ k (h : k < x.sub.length), (x.sub[k]).bs.length ≤ 3000) → ∀ v w', ItemV w' 0 w'.heap.size x v → Calls Tryd.prog 41 #[v] w' fun e w1 => e = .returned (.tuple #[(rdI x).val, .bool (rdOk x)]) ∧ Below w'.heap.size w' w1) := Lib.hid (fun h1 h2 v w' hv => by
    have c := read04_any x v w' hv (by omega) (fun k h => by have := h2 k h; omega)
    have hr := r4_same hv h2
    rw [hr.1, hr.2] at c
    exact c)
  have CA1 := Lib.hid (fun w' => as04_any (parseOf s) w')
  have CA2 := Lib.hid (fun w' => as04_any (rdI x) w')
  have HN1 := Lib.hid (nmEq_self (parseOf s))
  have HN2 := Lib.hid (nmEq_self (rdI x))
  obtain ⟨A, c, A', c', rfl, hk, hn, hb, h1, h2, h3, h4, h5, h6⟩ := hv.open_
  have HB := Lib.hid ((Below.refl w.heap.size w).alloc (Nat.le_refl _) (.cells #[.int .i64 x.kind, .int .u64 x.num, .slice A x.bs.length c, .slice A' x.sub.length c'] 26))
  have HK := Lib.hid (Blk.new w 26 #[.int .i64 x.kind, .int .u64 x.num, .slice A x.bs.length c, .slice A' x.sub.length c'])
  have HX := Lib.hid ((hv.below HB.out).more (Nat.le_refl _) HB.out.size)
  clear hv h3 h6 hk hn hb G
  generalize parseOf s = p at *
  generalize parseE s = pe at *
  generalize isName s = po at *
  generalize rdI x = q at *
  generalize rdE x = qe at *
  generalize rdOk x = qo at *
  generalize grt x 1 400 = gr at *
  obtain ⟨pi, pn, ps, ph, pd⟩ := p
  obtain ⟨qi, qn, qs, qh, qd⟩ := q
  go_enter Tryd.func8, Tryd.ntmps8
  go_upto_region 1 with (fail)
  generalize w.alloc (.cells #[.int .i64 x.kind, .int .u64 x.num, .slice A x.bs.length c, .slice A' x.sub.length c'] 26) = W at *
  have HGW := Lib.hid (HG.out.below HB.out)
  have HBE : Hid (∀ W', Below W.heap.size W W' → Below w.heap.size w W') := Lib.hid (fun W' h => below_next HB.out HB.out.size h)
  have CG : Hid (∀ W', Below W.heap.size W W' → Gl W') := Lib.hid (fun W' h => HGW.out.below h)
  have KK := Lib.hid (fun (W' : World) (h : Below W.heap.size W W') => cell4 (HK.out.next h))
  have KX := Lib.hid (fun (W' : World) (h : Below W.heap.size W W') => (HX.out.below h).more (Nat.le_refl _) h.size)
  clear HG HB HGW HK HX
  obtain ⟨k0, k1, k2, k3⟩ := KK.out W (Below.refl _ _)
  cases hS : decide (300 < (s.size : Int))
  rotate_left
  · go_wp2_with fail
    refine (CA.out W (CG.out _ (Below.refl _ _))).mono ?_
    rintro e w1 ⟨rfl, hb⟩
    have HB1 := Lib.hid hb
    clear hb
    go_wp2_with fail
    go_ret
    exact ⟨rfl, HBE.out _ HB1.out⟩
  · have hs3 : s.size ≤ 300 := by have := of_decide_eq_false hS; omega
    have CP' := Lib.hid (CP.out hs3)
    have CP4' := Lib.hid (CP4.out hs3)
    clear CP CP4 hs3
    go_wp2_with fail
    clear hS
    refine (CGr.out _ W (KX.out W (Below.refl _ _))).mono ?_
    rintro e w1 ⟨rfl, hb1⟩
    have HB1 := Lib.hid hb1
    clear hb1 k0 k1 k2 k3 CGr
    by_cases hg : gr < 0
    · have t1 : decide (gr < 0) = true := decide_eq_true hg
      go_wp2_with fail
      refine (CA.out w1 (CG.out _ HB1.out)).mono ?_
      rintro e w2 ⟨rfl, hb⟩
      have HB2 := Lib.hid (below_next HB1.out HB1.out.size hb)
      clear hb
      go_wp2_with fail
      go_ret
      exact ⟨rfl, HBE.out _ HB2.out⟩
    · have t1 : decide (gr < 0) = false := decide_eq_false hg
      obtain ⟨z1, z2, z3⟩ := HGO.out (by omega)
      have CR' := Lib.hid (CR.out (fun k h => by have := z3 k h; omega))
      have CAs' := Lib.hid (CAs.out z1 z2)
      have CR4' := Lib.hid (CR4.out z1 z3)
      clear CR CAs CR4 HGO z1 z2 z3 hg
      go_wp2_with fail
      clear t1
      refine (CP'.out w1 (CG.out _ HB1.out)).mono ?_
      rintro e w2 ⟨rfl, hb2⟩
      have HB2 := Lib.hid (below_next HB1.out HB1.out.size hb2)
      clear hb2 HB1 CP'
      have HB3 := Lib.hid (HB2.out.alloc HB2.out.size (.cells #[.bool pi, .int .u64 pn, .int .u64 ps, .string ph, .string pd] 51))
      have Ha3 := Lib.hid (Blk.new w2 51 #[.bool pi, .int .u64 pn, .int .u64 ps, .string ph, .string pd])
      clear HB2
      go_upto_region 4 with (fail)
      generalize w2.alloc (.cells #[.bool pi, .int .u64 pn, .int .u64 ps, .string ph, .string pd] 51) = W3 at *
      generalize w2.heap.size = ga at *
      go_wp2_with fail
      refine (CP4'.out W3).mono ?_
      rintro e w4 ⟨rfl, hb4⟩
      have HB5 := Lib.hid ((below_next HB3.out HB3.out.size hb4).alloc (Nat.le_trans HB3.out.size hb4.size) (.cells #[.bool pi, .int .u64 pn, .int .u64 ps, .string ph, .string pd] 52))
      have Ha5 := Lib.hid ((Ha3.out.next hb4).alloc (.cells #[.bool pi, .int .u64 pn, .int .u64 ps, .string ph, .string pd] 52))
      have Hb5 := Lib.hid (Blk.new w4 52 #[.bool pi, .int .u64 pn, .int .u64 ps, .string ph, .string pd])
      clear hb4 HB3 Ha3 CP4'
      go_upto_region 5 with (fail)
      generalize w4.alloc (.cells #[.bool pi, .int .u64 pn, .int .u64 ps, .string ph, .string pd] 52) = W5 at *
      generalize w4.heap.size = gb at *
      obtain ⟨k0, k1, k2, k3⟩ := KK.out W5 HB5.out
      go_wp2_with fail
      refine (CR'.out _ W5 (KX.out _ HB5.out) (CG.out _ HB5.out)).mono ?_
      rintro e w6 ⟨rfl, hb6⟩
      have HB7 := Lib.hid ((below_next HB5.out HB5.out.size hb6).alloc (Nat.le_trans HB5.out.size hb6.size) (.cells #[.bool qi, .int .u64 qn, .int .u64 qs, .string qh, .string qd] 51))
      have Ha7 := Lib.hid ((Ha5.out.next hb6).alloc (.cells #[.bool qi, .int .u64 qn, .int .u64 qs, .string qh, .string qd] 51))
      have Hb7 := Lib.hid ((Hb5.out.next hb6).alloc (.cells #[.bool qi, .int .u64 qn, .int .u64 qs, .string qh, .string qd] 51))
      have Hc7 := Lib.hid (Blk.new w6 51 #[.bool qi, .int .u64 qn, .int .u64 qs, .string qh, .string qd])
      clear hb6 HB5 Ha5 Hb5 CR' k0 k1 k2 k3
      go_upto_region 6 with (fail)
      generalize w6.alloc (.cells #[.bool qi, .int .u64 qn, .int .u64 qs, .string qh, .string qd] 51) = W7 at *
      generalize w6.heap.size = gc at *
      obtain ⟨k0, k1, k2, k3⟩ := KK.out W7 HB7.out
      go_wp2_with fail
      refine (CAs'.out _ W7 (KX.out _ HB7.out)).mono ?_
      rintro e w8 ⟨ka, na, Aa, la, ca, Ab, lb, cb, rfl, HIa, hb8⟩
      have HB8 := Lib.hid (below_next HB7.out HB7.out.size hb8)
      have Ha8 := Lib.hid (Ha7.out.next hb8)
      have Hb8 := Lib.hid (Hb7.out.next hb8)
      have Hc8 := Lib.hid (Hc7.out.next hb8)
      clear hb8 HB7 Ha7 Hb7 Hc7 CAs' k0 k1 k2 k3
      go_wp2_with fail
      refine (CR4'.out _ w8 HIa.out).mono ?_
      rintro e w9 ⟨rfl, hb9⟩
      have HB10 := Lib.hid ((below_next HB8.out HB8.out.size hb9).alloc (Nat.le_trans HB8.out.size hb9.size) (.cells #[.bool qi, .int .u64 qn, .int .u64 qs, .string qh, .string qd] 52))
      have Ha10 := Lib.hid ((Ha8.out.next hb9).alloc (.cells #[.bool qi, .int .u64 qn, .int .u64 qs, .string qh, .string qd] 52))
      have Hb10 := Lib.hid ((Hb8.out.next hb9).alloc (.cells #[.bool qi, .int .u64 qn, .int .u64 qs, .string qh, .string qd] 52))
      have Hc10 := Lib.hid ((Hc8.out.next hb9).alloc (.cells #[.bool qi, .int .u64 qn, .int .u64 qs, .string qh, .string qd] 52))
      have Hd10 := Lib.hid (Blk.new w9 52 #[.bool qi, .int .u64 qn, .int .u64 qs, .string qh, .string qd])
      clear hb9 HB8 Ha8 Hb8 Hc8 CR4' HIa
      go_upto_region 7 with (fail)
      generalize w9.alloc (.cells #[.bool qi, .int .u64 qn, .int .u64 qs, .string qh, .string qd] 52) = W10 at *
      generalize w9.heap.size = gd at *
      have KC := Lib.hid (fun (W' : World) (h : Below W10.heap.size W10 W') => And.intro (cells5 (Ha10.out.next h)) (And.intro (cells5 (Hb10.out.next h)) (And.intro (cells5 (Hc10.out.next h)) (cells5 (Hd10.out.next h)))))
      have HBd := Lib.hid (show Below W10.heap.size W10 W10.drew from (Below.refl _ W10).drew)
      have HGd := Lib.hid (CG.out _ (below_next HB10.out HB10.out.size HBd.out))
      clear Ha10 Hb10 Hc10 Hd10 CG KK KX
      have hn1 := HN1.out
      have hn2 := HN2.out
      obtain ⟨⟨a0, a1, a2, a3, a4⟩, ⟨b0, b1, b2, b3, b4⟩, ⟨c0, c1, c2, c3, c4⟩, d0, d1, d2, d3, d4⟩ := KC.out W10 (Below.refl _ _)
      rcases HPE.out with ⟨h7, h8⟩ | ⟨h7, h8⟩ <;> rcases HRE.out with ⟨h9, h10⟩ | ⟨h9, h10⟩ <;> subst h7 h8 h9 h10 <;> clear HPE HRE
      · refine wp_region_held_drew (S := (fun w' => (w'.cell? ⟨ga, 0, none⟩ = some (.bool pi) ∧ w'.cell? ⟨ga, 1, none⟩ = some (.int .u64 pn) ∧ w'.cell? ⟨ga, 2, none⟩ = some (.int .u64 ps) ∧ w'.cell? ⟨ga, 3, none⟩ = some (.string ph) ∧ w'.cell? ⟨ga, 4, none⟩ = some (.string pd)) ∧ (w'.cell? ⟨gb, 0, none⟩ = some (.bool pi) ∧ w'.cell? ⟨gb, 1, none⟩ = some (.int .u64 pn) ∧ w'.cell? ⟨gb, 2, none⟩ = some (.int .u64 ps) ∧ w'.cell? ⟨gb, 3, none⟩ = some (.string ph) ∧ w'.cell? ⟨gb, 4, none⟩ = some (.string pd)) ∧ (w'.cell? ⟨gc, 0, none⟩ = some (.bool qi) ∧ w'.cell? ⟨gc, 1, none⟩ = some (.int .u64 qn) ∧ w'.cell? ⟨gc, 2, none⟩ = some (.int .u64 qs) ∧ w'.cell? ⟨gc, 3, none⟩ = some (.string qh) ∧ w'.cell? ⟨gc, 4, none⟩ = some (.string qd)) ∧ (w'.cell? ⟨gd, 0, none⟩ = some (.bool qi) ∧ w'.cell? ⟨gd, 1, none⟩ = some (.int .u64 qn) ∧ w'.cell? ⟨gd, 2, none⟩ = some (.int .u64 qs) ∧ w'.cell? ⟨gd, 3, none⟩ = some (.string qh) ∧ w'.cell? ⟨gd, 4, none⟩ = some (.string qd)))) (by kernel_rfl) (KC.out _ HBd.out) (fun hHeld => ?_)
        refine wpAnyH_ready (rs := [0]) (by kernel_rfl) (by simp) ?_
        refine AllReadyH.cons (o := ({ dst := some 43, op := Op.call { callee := Callee.value (Operand.func 27), args := #[], argTypes := #[] }, type := 4, pos := "law.go:54", after := #[], guard := none })) rfl (fun K hK => ?_) AllReadyH.nil
        go_simp
        refine (CA.out _ HGd.out).mono ?_
        rintro e w11 ⟨rfl, hb11⟩
        have HB11 := Lib.hid (below_next HBd.out HBd.out.size hb11)
        clear hb11
        (try dsimp only)
        refine hK.out _ _ ?_ (fun hHeld2 => ?_)
        · (try dsimp only)
          exact KC.out _ HB11.out
        clear hK K hHeld
        rename _ => hHeld
        try simp only [Act.put, List.setIfInBounds_toArray, List.set_cons_zero, List.set_cons_succ]
        first
        | (refine wpAnyH_take (i := 1) (oi := ({ dst := some 44, op := Op.move (Operand.tmp 43), type := 4, pos := "law.go:54", after := #[{ on := 0, ground := Ground.data }, { on := 0, ground := Ground.chain }], guard := none })) (v := ?_) rfl (by kernel_rfl) (by kernel_rfl) (by kernel_rfl) (fun _ _ _ h => h) (Or.inl ⟨by rfl, ?_⟩) hHeld ?_
           rotate_left
           · intro w hSw
             (try dsimp only at hSw)
             go_simp
             try with_reducible rfl
           try simp only [Act.put, List.setIfInBounds_toArray, List.set_cons_zero, List.set_cons_succ])
        | fail
        first
        | (refine wpAnyH_take (i := 2) (oi := ({ dst := some 45, op := Op.load 51 (Operand.tmp 5), type := 51, pos := "law.go:54", after := #[{ on := 1, ground := Ground.guard }], guard := some (1, true) })) (v := ?_) rfl (by kernel_rfl) (by kernel_rfl) (by kernel_rfl) (fun _ _ _ h => h) (Or.inl ⟨by rfl, ?_⟩) hHeld ?_
           rotate_left
           · intro w hSw
             (try dsimp only at hSw)
             go_simp
             try with_reducible rfl
           try simp only [Act.put, List.setIfInBounds_toArray, List.set_cons_zero, List.set_cons_succ])
        | fail
        first
        | (refine wpAnyH_take (i := 4) (oi := ({ dst := some 47, op := Op.load 52 (Operand.tmp 7), type := 52, pos := "law.go:54", after := #[{ on := 1, ground := Ground.guard }], guard := some (1, true) })) (v := ?_) rfl (by kernel_rfl) (by kernel_rfl) (by kernel_rfl) (fun _ _ _ h => h) (Or.inl ⟨by rfl, ?_⟩) hHeld ?_
           rotate_left
           · intro w hSw
             (try dsimp only at hSw)
             go_simp
             try with_reducible rfl
           try simp only [Act.put, List.setIfInBounds_toArray, List.set_cons_zero, List.set_cons_succ])
        | fail
        refine wpAnyH_ready (rs := [3]) (by kernel_rfl) (by simp) ?_
        refine AllReadyH.cons (o := ({ dst := some 46, op := Op.call { callee := Callee.value (Operand.func 28), args := #[Operand.tmp 45], argTypes := #[51] }, type := 52, pos := "law.go:54", after := #[{ on := 2, ground := Ground.data }, { on := 1, ground := Ground.chain }, { on := 1, ground := Ground.guard }], guard := some (1, true) })) rfl (fun K hK => ?_) AllReadyH.nil
        go_simp
        refine (CA1.out _).mono ?_
        rintro e w12 ⟨rfl, hb12⟩
        have HB12 := Lib.hid (below_next HB11.out HB11.out.size hb12)
        clear hb12
        (try dsimp only)
        refine hK.out _ _ ?_ (fun hHeld2 => ?_)
        · (try dsimp only)
          exact KC.out _ HB12.out
        clear hK K hHeld
        rename _ => hHeld
        try simp only [Act.put, List.setIfInBounds_toArray, List.set_cons_zero, List.set_cons_succ]
        first
        | (refine wpAnyH_take (i := 5) (oi := ({ dst := some 48, op := Op.binOp BinOp.eql 52 (Operand.tmp 46) (Operand.tmp 47) 52, type := 4, pos := "law.go:54", after := #[{ on := 3, ground := Ground.data }, { on := 4, ground := Ground.data }, { on := 1, ground := Ground.guard }], guard := some (1, true) })) (v := ?_) rfl (by kernel_rfl) (by kernel_rfl) (by kernel_rfl) (fun _ _ _ h => h) (Or.inl ⟨by rfl, ?_⟩) hHeld ?_
           rotate_left
           · intro w hSw
             (try dsimp only at hSw)
             go_simp
             try with_reducible rfl
           try simp only [Act.put, List.setIfInBounds_toArray, List.set_cons_zero, List.set_cons_succ])
        | fail
        first
        | (refine wpAnyH_take (i := 6) (oi := ({ dst := some 49, op := Op.pick (Operand.tmp 44) (Operand.tmp 48) (Operand.const (Value.bool false)), type := 4, pos := "law.go:54", after := #[{ on := 1, ground := Ground.data }, { on := 5, ground := Ground.data }], guard := none })) (v := ?_) rfl (by kernel_rfl) (by kernel_rfl) (by kernel_rfl) (fun _ _ _ h => h) (Or.inl ⟨by rfl, ?_⟩) hHeld ?_
           rotate_left
           · intro w hSw
             (try dsimp only at hSw)
             go_simp
             try with_reducible rfl
           try simp only [Act.put, List.setIfInBounds_toArray, List.set_cons_zero, List.set_cons_succ])
        | fail
        first
        | (refine wpAnyH_take (i := 7) (oi := ({ dst := some 50, op := Op.move (Operand.tmp 49), type := 4, pos := "law.go:54", after := #[{ on := 6, ground := Ground.data }, { on := 3, ground := Ground.chain }], guard := none })) (v := ?_) rfl (by kernel_rfl) (by kernel_rfl) (by kernel_rfl) (fun _ _ _ h => h) (Or.inl ⟨by rfl, ?_⟩) hHeld ?_
           rotate_left
           · intro w hSw
             (try dsimp only at hSw)
             go_simp
             try with_reducible rfl
           try simp only [Act.put, List.setIfInBounds_toArray, List.set_cons_zero, List.set_cons_succ])
        | fail
        first
        | (refine wpAnyH_take (i := 8) (oi := ({ dst := some 51, op := Op.move (Operand.tmp 6), type := 33, pos := "law.go:54", after := #[{ on := 7, ground := Ground.guard }], guard := some (7, true) })) (v := ?_) rfl (by kernel_rfl) (by kernel_rfl) (by kernel_rfl) (fun _ _ _ h => h) (Or.inl ⟨by rfl, ?_⟩) hHeld ?_
           rotate_left
           · intro w hSw
             (try dsimp only at hSw)
             go_simp
             try with_reducible rfl
           try simp only [Act.put, List.setIfInBounds_toArray, List.set_cons_zero, List.set_cons_succ])
        | fail
        first
        | (refine wpAnyH_take (i := 9) (oi := ({ dst := some 52, op := Op.binOp BinOp.eql 33 (Operand.tmp 51) (Operand.const (Value.int IntKind.i64 0)) 33, type := 4, pos := "law.go:54", after := #[{ on := 8, ground := Ground.data }, { on := 7, ground := Ground.guard }], guard := some (7, true) })) (v := ?_) rfl (by kernel_rfl) (by kernel_rfl) (by kernel_rfl) (fun _ _ _ h => h) (Or.inl ⟨by rfl, ?_⟩) hHeld ?_
           rotate_left
           · intro w hSw
             (try dsimp only at hSw)
             go_simp
             try with_reducible rfl
           try simp only [Act.put, List.setIfInBounds_toArray, List.set_cons_zero, List.set_cons_succ])
        | fail
        first
        | (refine wpAnyH_take (i := 10) (oi := ({ dst := some 53, op := Op.move (Operand.tmp 8), type := 4, pos := "law.go:54", after := #[{ on := 7, ground := Ground.guard }], guard := some (7, true) })) (v := ?_) rfl (by kernel_rfl) (by kernel_rfl) (by kernel_rfl) (fun _ _ _ h => h) (Or.inl ⟨by rfl, ?_⟩) hHeld ?_
           rotate_left
           · intro w hSw
             (try dsimp only at hSw)
             go_simp
             try with_reducible rfl
           try simp only [Act.put, List.setIfInBounds_toArray, List.set_cons_zero, List.set_cons_succ])
        | fail
        first
        | (refine wpAnyH_take (i := 11) (oi := ({ dst := some 54, op := Op.binOp BinOp.eql 4 (Operand.tmp 52) (Operand.tmp 53) 4, type := 4, pos := "law.go:54", after := #[{ on := 9, ground := Ground.data }, { on := 10, ground := Ground.data }, { on := 7, ground := Ground.guard }], guard := some (7, true) })) (v := ?_) rfl (by kernel_rfl) (by kernel_rfl) (by kernel_rfl) (fun _ _ _ h => h) (Or.inl ⟨by rfl, ?_⟩) hHeld ?_
           rotate_left
           · intro w hSw
             (try dsimp only at hSw)
             go_simp
             try with_reducible rfl
           try simp only [Act.put, List.setIfInBounds_toArray, List.set_cons_zero, List.set_cons_succ])
        | fail
        first
        | (refine wpAnyH_take (i := 12) (oi := ({ dst := some 55, op := Op.pick (Operand.tmp 50) (Operand.tmp 54) (Operand.const (Value.bool false)), type := 4, pos := "law.go:54", after := #[{ on := 7, ground := Ground.data }, { on := 11, ground := Ground.data }], guard := none })) (v := ?_) rfl (by kernel_rfl) (by kernel_rfl) (by kernel_rfl) (fun _ _ _ h => h) (Or.inl ⟨by rfl, ?_⟩) hHeld ?_
           rotate_left
           · intro w hSw
             (try dsimp only at hSw)
             go_simp
             try with_reducible rfl
           try simp only [Act.put, List.setIfInBounds_toArray, List.set_cons_zero, List.set_cons_succ])
        | fail
        first
        | (refine wpAnyH_take (i := 13) (oi := ({ dst := some 56, op := Op.move (Operand.tmp 55), type := 4, pos := "law.go:54", after := #[{ on := 12, ground := Ground.data }, { on := 7, ground := Ground.chain }], guard := none })) (v := ?_) rfl (by kernel_rfl) (by kernel_rfl) (by kernel_rfl) (fun _ _ _ h => h) (Or.inl ⟨by rfl, ?_⟩) hHeld ?_
           rotate_left
           · intro w hSw
             (try dsimp only at hSw)
             go_simp
             try with_reducible rfl
           try simp only [Act.put, List.setIfInBounds_toArray, List.set_cons_zero, List.set_cons_succ])
        | fail
        first
        | (refine wpAnyH_take (i := 14) (oi := ({ dst := some 57, op := Op.move (Operand.tmp 8), type := 4, pos := "law.go:54", after := #[{ on := 13, ground := Ground.guard }], guard := some (13, true) })) (v := ?_) rfl (by kernel_rfl) (by kernel_rfl) (by kernel_rfl) (fun _ _ _ h => h) (Or.inl ⟨by rfl, ?_⟩) hHeld ?_
           rotate_left
           · intro w hSw
             (try dsimp only at hSw)
             go_simp
             try with_reducible rfl
           try simp only [Act.put, List.setIfInBounds_toArray, List.set_cons_zero, List.set_cons_succ])
        | fail
        first
        | (refine wpAnyH_take (i := 15) (oi := ({ dst := some 58, op := Op.move (Operand.tmp 57), type := 4, pos := "law.go:54", after := #[{ on := 14, ground := Ground.data }, { on := 13, ground := Ground.chain }, { on := 13, ground := Ground.guard }], guard := some (13, true) })) (v := ?_) rfl (by kernel_rfl) (by kernel_rfl) (by kernel_rfl) (fun _ _ _ h => h) (Or.inl ⟨by rfl, ?_⟩) hHeld ?_
           rotate_left
           · intro w hSw
             (try dsimp only at hSw)
             go_simp
             try with_reducible rfl
           try simp only [Act.put, List.setIfInBounds_toArray, List.set_cons_zero, List.set_cons_succ])
        | fail
        first
        | (refine wpAnyH_take (i := 16) (oi := ({ dst := some 59, op := Op.move (Operand.tmp 6), type := 33, pos := "law.go:54", after := #[{ on := 15, ground := Ground.guard }], guard := some (15, false) })) (v := undef) rfl (by kernel_rfl) (by kernel_rfl) (by kernel_rfl) (fun _ _ _ h => h) (Or.inr ⟨by rfl, rfl⟩) hHeld ?_
           try simp only [Act.put, List.setIfInBounds_toArray, List.set_cons_zero, List.set_cons_succ])
        | fail
        first
        | (refine wpAnyH_take (i := 17) (oi := ({ dst := some 60, op := Op.binOp BinOp.eql 33 (Operand.tmp 59) (Operand.const (Value.int IntKind.i64 3)) 33, type := 4, pos := "law.go:54", after := #[{ on := 16, ground := Ground.data }, { on := 15, ground := Ground.guard }], guard := some (15, false) })) (v := undef) rfl (by kernel_rfl) (by kernel_rfl) (by kernel_rfl) (fun _ _ _ h => h) (Or.inr ⟨by rfl, rfl⟩) hHeld ?_
           try simp only [Act.put, List.setIfInBounds_toArray, List.set_cons_zero, List.set_cons_succ])
        | fail
        first
        | (refine wpAnyH_take (i := 18) (oi := ({ dst := some 61, op := Op.pick (Operand.tmp 58) (Operand.const (Value.bool true)) (Operand.tmp 60), type := 4, pos := "law.go:54", after := #[{ on := 15, ground := Ground.data }, { on := 17, ground := Ground.data }, { on := 13, ground := Ground.guard }], guard := some (13, true) })) (v := ?_) rfl (by kernel_rfl) (by kernel_rfl) (by kernel_rfl) (fun _ _ _ h => h) (Or.inl ⟨by rfl, ?_⟩) hHeld ?_
           rotate_left
           · intro w hSw
             (try dsimp only at hSw)
             go_simp
             try with_reducible rfl
           try simp only [Act.put, List.setIfInBounds_toArray, List.set_cons_zero, List.set_cons_succ])
        | fail
        first
        | (refine wpAnyH_take (i := 19) (oi := ({ dst := some 62, op := Op.pick (Operand.tmp 56) (Operand.tmp 61) (Operand.const (Value.bool false)), type := 4, pos := "law.go:54", after := #[{ on := 13, ground := Ground.data }, { on := 18, ground := Ground.data }], guard := none })) (v := ?_) rfl (by kernel_rfl) (by kernel_rfl) (by kernel_rfl) (fun _ _ _ h => h) (Or.inl ⟨by rfl, ?_⟩) hHeld ?_
           rotate_left
           · intro w hSw
             (try dsimp only at hSw)
             go_simp
             try with_reducible rfl
           try simp only [Act.put, List.setIfInBounds_toArray, List.set_cons_zero, List.set_cons_succ])
        | fail
        first
        | (refine wpAnyH_take (i := 20) (oi := ({ dst := some 63, op := Op.move (Operand.tmp 62), type := 4, pos := "law.go:54", after := #[{ on := 19, ground := Ground.data }, { on := 15, ground := Ground.chain }], guard := none })) (v := ?_) rfl (by kernel_rfl) (by kernel_rfl) (by kernel_rfl) (fun _ _ _ h => h) (Or.inl ⟨by rfl, ?_⟩) hHeld ?_
           rotate_left
           · intro w hSw
             (try dsimp only at hSw)
             go_simp
             try with_reducible rfl
           try simp only [Act.put, List.setIfInBounds_toArray, List.set_cons_zero, List.set_cons_succ])
        | fail
        first
        | (refine wpAnyH_take (i := 21) (oi := ({ dst := some 64, op := Op.load 51 (Operand.tmp 9), type := 51, pos := "law.go:54", after := #[{ on := 20, ground := Ground.guard }], guard := some (20, true) })) (v := ?_) rfl (by kernel_rfl) (by kernel_rfl) (by kernel_rfl) (fun _ _ _ h => h) (Or.inl ⟨by rfl, ?_⟩) hHeld ?_
           rotate_left
           · intro w hSw
             (try dsimp only at hSw)
             go_simp
             try with_reducible rfl
           try simp only [Act.put, List.setIfInBounds_toArray, List.set_cons_zero, List.set_cons_succ])
        | fail
        first
        | (refine wpAnyH_take (i := 23) (oi := ({ dst := some 66, op := Op.load 52 (Operand.tmp 11), type := 52, pos := "law.go:54", after := #[{ on := 20, ground := Ground.guard }], guard := some (20, true) })) (v := ?_) rfl (by kernel_rfl) (by kernel_rfl) (by kernel_rfl) (fun _ _ _ h => h) (Or.inl ⟨by rfl, ?_⟩) hHeld ?_
           rotate_left
           · intro w hSw
             (try dsimp only at hSw)
             go_simp
             try with_reducible rfl
           try simp only [Act.put, List.setIfInBounds_toArray, List.set_cons_zero, List.set_cons_succ])
        | fail
        refine wpAnyH_ready (rs := [22]) (by kernel_rfl) (by simp) ?_
        refine AllReadyH.cons (o := ({ dst := some 65, op := Op.call { callee := Callee.value (Operand.func 28), args := #[Operand.tmp 64], argTypes := #[51] }, type := 52, pos := "law.go:54", after := #[{ on := 21, ground := Ground.data }, { on := 20, ground := Ground.chain }, { on := 20, ground := Ground.guard }], guard := some (20, true) })) rfl (fun K hK => ?_) AllReadyH.nil
        go_simp
        refine (CA2.out _).mono ?_
        rintro e w13 ⟨rfl, hb13⟩
        have HB13 := Lib.hid (below_next HB12.out HB12.out.size hb13)
        clear hb13
        (try dsimp only)
        refine hK.out _ _ ?_ (fun hHeld2 => ?_)
        · (try dsimp only)
          exact KC.out _ HB13.out
        clear hK K hHeld
        rename _ => hHeld
        try simp only [Act.put, List.setIfInBounds_toArray, List.set_cons_zero, List.set_cons_succ]
        first
        | (refine wpAnyH_take (i := 24) (oi := ({ dst := some 67, op := Op.binOp BinOp.eql 52 (Operand.tmp 65) (Operand.tmp 66) 52, type := 4, pos := "law.go:54", after := #[{ on := 22, ground := Ground.data }, { on := 23, ground := Ground.data }, { on := 20, ground := Ground.guard }], guard := some (20, true) })) (v := ?_) rfl (by kernel_rfl) (by kernel_rfl) (by kernel_rfl) (fun _ _ _ h => h) (Or.inl ⟨by rfl, ?_⟩) hHeld ?_
           rotate_left
           · intro w hSw
             (try dsimp only at hSw)
             go_simp
             try with_reducible rfl
           try simp only [Act.put, List.setIfInBounds_toArray, List.set_cons_zero, List.set_cons_succ])
        | fail
        first
        | (refine wpAnyH_take (i := 25) (oi := ({ dst := some 68, op := Op.pick (Operand.tmp 63) (Operand.tmp 67) (Operand.const (Value.bool false)), type := 4, pos := "law.go:54", after := #[{ on := 20, ground := Ground.data }, { on := 24, ground := Ground.data }], guard := none })) (v := ?_) rfl (by kernel_rfl) (by kernel_rfl) (by kernel_rfl) (fun _ _ _ h => h) (Or.inl ⟨by rfl, ?_⟩) hHeld ?_
           rotate_left
           · intro w hSw
             (try dsimp only at hSw)
             go_simp
             try with_reducible rfl
           try simp only [Act.put, List.setIfInBounds_toArray, List.set_cons_zero, List.set_cons_succ])
        | fail
        first
        | (refine wpAnyH_take (i := 26) (oi := ({ dst := some 69, op := Op.move (Operand.tmp 68), type := 4, pos := "law.go:54", after := #[{ on := 25, ground := Ground.data }, { on := 22, ground := Ground.chain }], guard := none })) (v := ?_) rfl (by kernel_rfl) (by kernel_rfl) (by kernel_rfl) (fun _ _ _ h => h) (Or.inl ⟨by rfl, ?_⟩) hHeld ?_
           rotate_left
           · intro w hSw
             (try dsimp only at hSw)
             go_simp
             try with_reducible rfl
           try simp only [Act.put, List.setIfInBounds_toArray, List.set_cons_zero, List.set_cons_succ])
        | fail
        first
        | (refine wpAnyH_take (i := 27) (oi := ({ dst := some 70, op := Op.move (Operand.tmp 10), type := 33, pos := "law.go:54", after := #[{ on := 26, ground := Ground.guard }], guard := some (26, true) })) (v := ?_) rfl (by kernel_rfl) (by kernel_rfl) (by kernel_rfl) (fun _ _ _ h => h) (Or.inl ⟨by rfl, ?_⟩) hHeld ?_
           rotate_left
           · intro w hSw
             (try dsimp only at hSw)
             go_simp
             try with_reducible rfl
           try simp only [Act.put, List.setIfInBounds_toArray, List.set_cons_zero, List.set_cons_succ])
        | fail
        first
        | (refine wpAnyH_take (i := 28) (oi := ({ dst := some 71, op := Op.binOp BinOp.eql 33 (Operand.tmp 70) (Operand.const (Value.int IntKind.i64 0)) 33, type := 4, pos := "law.go:54", after := #[{ on := 27, ground := Ground.data }, { on := 26, ground := Ground.guard }], guard := some (26, true) })) (v := ?_) rfl (by kernel_rfl) (by kernel_rfl) (by kernel_rfl) (fun _ _ _ h => h) (Or.inl ⟨by rfl, ?_⟩) hHeld ?_
           rotate_left
           · intro w hSw
             (try dsimp only at hSw)
             go_simp
             try with_reducible rfl
           try simp only [Act.put, List.setIfInBounds_toArray, List.set_cons_zero, List.set_cons_succ])
        | fail
        first
        | (refine wpAnyH_take (i := 29) (oi := ({ dst := some 72, op := Op.move (Operand.tmp 12), type := 4, pos := "law.go:54", after := #[{ on := 26, ground := Ground.guard }], guard := some (26, true) })) (v := ?_) rfl (by kernel_rfl) (by kernel_rfl) (by kernel_rfl) (fun _ _ _ h => h) (Or.inl ⟨by rfl, ?_⟩) hHeld ?_
           rotate_left
           · intro w hSw
             (try dsimp only at hSw)
             go_simp
             try with_reducible rfl
           try simp only [Act.put, List.setIfInBounds_toArray, List.set_cons_zero, List.set_cons_succ])
        | fail
        first
        | (refine wpAnyH_take (i := 30) (oi := ({ dst := some 73, op := Op.binOp BinOp.eql 4 (Operand.tmp 71) (Operand.tmp 72) 4, type := 4, pos := "law.go:54", after := #[{ on := 28, ground := Ground.data }, { on := 29, ground := Ground.data }, { on := 26, ground := Ground.guard }], guard := some (26, true) })) (v := ?_) rfl (by kernel_rfl) (by kernel_rfl) (by kernel_rfl) (fun _ _ _ h => h) (Or.inl ⟨by rfl, ?_⟩) hHeld ?_
           rotate_left
           · intro w hSw
             (try dsimp only at hSw)
             go_simp
             try with_reducible rfl
           try simp only [Act.put, List.setIfInBounds_toArray, List.set_cons_zero, List.set_cons_succ])
        | fail
        first
        | (refine wpAnyH_take (i := 31) (oi := ({ dst := some 74, op := Op.pick (Operand.tmp 69) (Operand.tmp 73) (Operand.const (Value.bool false)), type := 4, pos := "law.go:54", after := #[{ on := 26, ground := Ground.data }, { on := 30, ground := Ground.data }], guard := none })) (v := ?_) rfl (by kernel_rfl) (by kernel_rfl) (by kernel_rfl) (fun _ _ _ h => h) (Or.inl ⟨by rfl, ?_⟩) hHeld ?_
           rotate_left
           · intro w hSw
             (try dsimp only at hSw)
             go_simp
             try with_reducible rfl
           try simp only [Act.put, List.setIfInBounds_toArray, List.set_cons_zero, List.set_cons_succ])
        | fail
        first
        | (refine wpAnyH_take (i := 32) (oi := ({ dst := some 75, op := Op.move (Operand.tmp 74), type := 4, pos := "law.go:54", after := #[{ on := 31, ground := Ground.data }, { on := 26, ground := Ground.chain }], guard := none })) (v := ?_) rfl (by kernel_rfl) (by kernel_rfl) (by kernel_rfl) (fun _ _ _ h => h) (Or.inl ⟨by rfl, ?_⟩) hHeld ?_
           rotate_left
           · intro w hSw
             (try dsimp only at hSw)
             go_simp
             try with_reducible rfl
           try simp only [Act.put, List.setIfInBounds_toArray, List.set_cons_zero, List.set_cons_succ])
        | fail
        first
        | (refine wpAnyH_take (i := 33) (oi := ({ dst := some 76, op := Op.move (Operand.tmp 12), type := 4, pos := "law.go:54", after := #[{ on := 32, ground := Ground.guard }], guard := some (32, true) })) (v := ?_) rfl (by kernel_rfl) (by kernel_rfl) (by kernel_rfl) (fun _ _ _ h => h) (Or.inl ⟨by rfl, ?_⟩) hHeld ?_
           rotate_left
           · intro w hSw
             (try dsimp only at hSw)
             go_simp
             try with_reducible rfl
           try simp only [Act.put, List.setIfInBounds_toArray, List.set_cons_zero, List.set_cons_succ])
        | fail
        first
        | (refine wpAnyH_take (i := 34) (oi := ({ dst := some 77, op := Op.move (Operand.tmp 76), type := 4, pos := "law.go:54", after := #[{ on := 33, ground := Ground.data }, { on := 32, ground := Ground.chain }, { on := 32, ground := Ground.guard }], guard := some (32, true) })) (v := ?_) rfl (by kernel_rfl) (by kernel_rfl) (by kernel_rfl) (fun _ _ _ h => h) (Or.inl ⟨by rfl, ?_⟩) hHeld ?_
           rotate_left
           · intro w hSw
             (try dsimp only at hSw)
             go_simp
             try with_reducible rfl
           try simp only [Act.put, List.setIfInBounds_toArray, List.set_cons_zero, List.set_cons_succ])
        | fail
        first
        | (refine wpAnyH_take (i := 35) (oi := ({ dst := some 78, op := Op.move (Operand.tmp 10), type := 33, pos := "law.go:54", after := #[{ on := 34, ground := Ground.guard }], guard := some (34, false) })) (v := undef) rfl (by kernel_rfl) (by kernel_rfl) (by kernel_rfl) (fun _ _ _ h => h) (Or.inr ⟨by rfl, rfl⟩) hHeld ?_
           try simp only [Act.put, List.setIfInBounds_toArray, List.set_cons_zero, List.set_cons_succ])
        | fail
        first
        | (refine wpAnyH_take (i := 36) (oi := ({ dst := some 79, op := Op.binOp BinOp.eql 33 (Operand.tmp 78) (Operand.const (Value.int IntKind.i64 3)) 33, type := 4, pos := "law.go:54", after := #[{ on := 35, ground := Ground.data }, { on := 34, ground := Ground.guard }], guard := some (34, false) })) (v := undef) rfl (by kernel_rfl) (by kernel_rfl) (by kernel_rfl) (fun _ _ _ h => h) (Or.inr ⟨by rfl, rfl⟩) hHeld ?_
           try simp only [Act.put, List.setIfInBounds_toArray, List.set_cons_zero, List.set_cons_succ])
        | fail
        first
        | (refine wpAnyH_take (i := 37) (oi := ({ dst := some 80, op := Op.pick (Operand.tmp 77) (Operand.const (Value.bool true)) (Operand.tmp 79), type := 4, pos := "law.go:54", after := #[{ on := 34, ground := Ground.data }, { on := 36, ground := Ground.data }, { on := 32, ground := Ground.guard }], guard := some (32, true) })) (v := ?_) rfl (by kernel_rfl) (by kernel_rfl) (by kernel_rfl) (fun _ _ _ h => h) (Or.inl ⟨by rfl, ?_⟩) hHeld ?_
           rotate_left
           · intro w hSw
             (try dsimp only at hSw)
             go_simp
             try with_reducible rfl
           try simp only [Act.put, List.setIfInBounds_toArray, List.set_cons_zero, List.set_cons_succ])
        | fail
        first
        | (refine wpAnyH_take (i := 38) (oi := ({ dst := some 81, op := Op.pick (Operand.tmp 75) (Operand.tmp 80) (Operand.const (Value.bool false)), type := 4, pos := "law.go:54", after := #[{ on := 32, ground := Ground.data }, { on := 37, ground := Ground.data }], guard := none })) (v := ?_) rfl (by kernel_rfl) (by kernel_rfl) (by kernel_rfl) (fun _ _ _ h => h) (Or.inl ⟨by rfl, ?_⟩) hHeld ?_
           rotate_left
           · intro w hSw
             (try dsimp only at hSw)
             go_simp
             try with_reducible rfl
           try simp only [Act.put, List.setIfInBounds_toArray, List.set_cons_zero, List.set_cons_succ])
        | fail
        first
        | (refine wpAnyH_take (i := 39) (oi := ({ dst := some 4, op := Op.assign (Operand.tmp 81), type := 4, pos := "law.go:54", after := #[{ on := 38, ground := Ground.data }, { on := 34, ground := Ground.chain }, { on := 0, ground := Ground.phase }, { on := 1, ground := Ground.phase }, { on := 2, ground := Ground.phase }, { on := 3, ground := Ground.phase }, { on := 4, ground := Ground.phase }, { on := 5, ground := Ground.phase }, { on := 6, ground := Ground.phase }, { on := 7, ground := Ground.phase }, { on := 8, ground := Ground.phase }, { on := 9, ground := Ground.phase }, { on := 10, ground := Ground.phase }, { on := 11, ground := Ground.phase }, { on := 12, ground := Ground.phase }, { on := 13, ground := Ground.phase }, { on := 14, ground := Ground.phase }, { on := 15, ground := Ground.phase }, { on := 16, ground := Ground.phase }, { on := 17, ground := Ground.phase }, { on := 18, ground := Ground.phase }, { on := 19, ground := Ground.phase }, { on := 20, ground := Ground.phase }, { on := 21, ground := Ground.phase }, { on := 22, ground := Ground.phase }, { on := 23, ground := Ground.phase }, { on := 24, ground := Ground.phase }, { on := 25, ground := Ground.phase }, { on := 26, ground := Ground.phase }, { on := 27, ground := Ground.phase }, { on := 28, ground := Ground.phase }, { on := 29, ground := Ground.phase }, { on := 30, ground := Ground.phase }, { on := 31, ground := Ground.phase }, { on := 32, ground := Ground.phase }, { on := 33, ground := Ground.phase }, { on := 34, ground := Ground.phase }, { on := 35, ground := Ground.phase }, { on := 36, ground := Ground.phase }, { on := 37, ground := Ground.phase }, { on := 38, ground := Ground.phase }], guard := none })) (v := ?_) rfl (by kernel_rfl) (by kernel_rfl) (by kernel_rfl) (fun _ _ _ h => h) (Or.inl ⟨by rfl, ?_⟩) hHeld ?_
           rotate_left
           · intro w hSw
             (try dsimp only at hSw)
             go_simp
             try with_reducible rfl
           try simp only [Act.put, List.setIfInBounds_toArray, List.set_cons_zero, List.set_cons_succ])
        | fail
        refine wpAnyH_done (by kernel_rfl) ?_ _
        go_wp2_with fail
        go_ret
        exact ⟨rfl, HBE.out _ (below_next HB10.out HB10.out.size HB13.out)⟩
      · refine wp_region_held_drew (S := (fun w' => (w'.cell? ⟨ga, 0, none⟩ = some (.bool pi) ∧ w'.cell? ⟨ga, 1, none⟩ = some (.int .u64 pn) ∧ w'.cell? ⟨ga, 2, none⟩ = some (.int .u64 ps) ∧ w'.cell? ⟨ga, 3, none⟩ = some (.string ph) ∧ w'.cell? ⟨ga, 4, none⟩ = some (.string pd)) ∧ (w'.cell? ⟨gb, 0, none⟩ = some (.bool pi) ∧ w'.cell? ⟨gb, 1, none⟩ = some (.int .u64 pn) ∧ w'.cell? ⟨gb, 2, none⟩ = some (.int .u64 ps) ∧ w'.cell? ⟨gb, 3, none⟩ = some (.string ph) ∧ w'.cell? ⟨gb, 4, none⟩ = some (.string pd)) ∧ (w'.cell? ⟨gc, 0, none⟩ = some (.bool qi) ∧ w'.cell? ⟨gc, 1, none⟩ = some (.int .u64 qn) ∧ w'.cell? ⟨gc, 2, none⟩ = some (.int .u64 qs) ∧ w'.cell? ⟨gc, 3, none⟩ = some (.string qh) ∧ w'.cell? ⟨gc, 4, none⟩ = some (.string qd)) ∧ (w'.cell? ⟨gd, 0, none⟩ = some (.bool qi) ∧ w'.cell? ⟨gd, 1, none⟩ = some (.int .u64 qn) ∧ w'.cell? ⟨gd, 2, none⟩ = some (.int .u64 qs) ∧ w'.cell? ⟨gd, 3, none⟩ = some (.string qh) ∧ w'.cell? ⟨gd, 4, none⟩ = some (.string qd)))) (by kernel_rfl) (KC.out _ HBd.out) (fun hHeld => ?_)
        refine wpAnyH_ready (rs := [0]) (by kernel_rfl) (by simp) ?_
        refine AllReadyH.cons (o := ({ dst := some 43, op := Op.call { callee := Callee.value (Operand.func 27), args := #[], argTypes := #[] }, type := 4, pos := "law.go:54", after := #[], guard := none })) rfl (fun K hK => ?_) AllReadyH.nil
        go_simp
        refine (CA.out _ HGd.out).mono ?_
        rintro e w11 ⟨rfl, hb11⟩
        have HB11 := Lib.hid (below_next HBd.out HBd.out.size hb11)
        clear hb11
        (try dsimp only)
        refine hK.out _ _ ?_ (fun hHeld2 => ?_)
        · (try dsimp only)
          exact KC.out _ HB11.out
        clear hK K hHeld
        rename _ => hHeld
        try simp only [Act.put, List.setIfInBounds_toArray, List.set_cons_zero, List.set_cons_succ]
        first
        | (refine wpAnyH_take (i := 1) (oi := ({ dst := some 44, op := Op.move (Operand.tmp 43), type := 4, pos := "law.go:54", after := #[{ on := 0, ground := Ground.data }, { on := 0, ground := Ground.chain }], guard := none })) (v := ?_) rfl (by kernel_rfl) (by kernel_rfl) (by kernel_rfl) (fun _ _ _ h => h) (Or.inl ⟨by rfl, ?_⟩) hHeld ?_
           rotate_left
           · intro w hSw
             (try dsimp only at hSw)
             go_simp
             try with_reducible rfl
           try simp only [Act.put, List.setIfInBounds_toArray, List.set_cons_zero, List.set_cons_succ])
        | fail
        first
        | (refine wpAnyH_take (i := 2) (oi := ({ dst := some 45, op := Op.load 51 (Operand.tmp 5), type := 51, pos := "law.go:54", after := #[{ on := 1, ground := Ground.guard }], guard := some (1, true) })) (v := ?_) rfl (by kernel_rfl) (by kernel_rfl) (by kernel_rfl) (fun _ _ _ h => h) (Or.inl ⟨by rfl, ?_⟩) hHeld ?_
           rotate_left
           · intro w hSw
             (try dsimp only at hSw)
             go_simp
             try with_reducible rfl
           try simp only [Act.put, List.setIfInBounds_toArray, List.set_cons_zero, List.set_cons_succ])
        | fail
        first
        | (refine wpAnyH_take (i := 4) (oi := ({ dst := some 47, op := Op.load 52 (Operand.tmp 7), type := 52, pos := "law.go:54", after := #[{ on := 1, ground := Ground.guard }], guard := some (1, true) })) (v := ?_) rfl (by kernel_rfl) (by kernel_rfl) (by kernel_rfl) (fun _ _ _ h => h) (Or.inl ⟨by rfl, ?_⟩) hHeld ?_
           rotate_left
           · intro w hSw
             (try dsimp only at hSw)
             go_simp
             try with_reducible rfl
           try simp only [Act.put, List.setIfInBounds_toArray, List.set_cons_zero, List.set_cons_succ])
        | fail
        refine wpAnyH_ready (rs := [3]) (by kernel_rfl) (by simp) ?_
        refine AllReadyH.cons (o := ({ dst := some 46, op := Op.call { callee := Callee.value (Operand.func 28), args := #[Operand.tmp 45], argTypes := #[51] }, type := 52, pos := "law.go:54", after := #[{ on := 2, ground := Ground.data }, { on := 1, ground := Ground.chain }, { on := 1, ground := Ground.guard }], guard := some (1, true) })) rfl (fun K hK => ?_) AllReadyH.nil
        go_simp
        refine (CA1.out _).mono ?_
        rintro e w12 ⟨rfl, hb12⟩
        have HB12 := Lib.hid (below_next HB11.out HB11.out.size hb12)
        clear hb12
        (try dsimp only)
        refine hK.out _ _ ?_ (fun hHeld2 => ?_)
        · (try dsimp only)
          exact KC.out _ HB12.out
        clear hK K hHeld
        rename _ => hHeld
        try simp only [Act.put, List.setIfInBounds_toArray, List.set_cons_zero, List.set_cons_succ]
        first
        | (refine wpAnyH_take (i := 5) (oi := ({ dst := some 48, op := Op.binOp BinOp.eql 52 (Operand.tmp 46) (Operand.tmp 47) 52, type := 4, pos := "law.go:54", after := #[{ on := 3, ground := Ground.data }, { on := 4, ground := Ground.data }, { on := 1, ground := Ground.guard }], guard := some (1, true) })) (v := ?_) rfl (by kernel_rfl) (by kernel_rfl) (by kernel_rfl) (fun _ _ _ h => h) (Or.inl ⟨by rfl, ?_⟩) hHeld ?_
           rotate_left
           · intro w hSw
             (try dsimp only at hSw)
             go_simp
             try with_reducible rfl
           try simp only [Act.put, List.setIfInBounds_toArray, List.set_cons_zero, List.set_cons_succ])
        | fail
        first
        | (refine wpAnyH_take (i := 6) (oi := ({ dst := some 49, op := Op.pick (Operand.tmp 44) (Operand.tmp 48) (Operand.const (Value.bool false)), type := 4, pos := "law.go:54", after := #[{ on := 1, ground := Ground.data }, { on := 5, ground := Ground.data }], guard := none })) (v := ?_) rfl (by kernel_rfl) (by kernel_rfl) (by kernel_rfl) (fun _ _ _ h => h) (Or.inl ⟨by rfl, ?_⟩) hHeld ?_
           rotate_left
           · intro w hSw
             (try dsimp only at hSw)
             go_simp
             try with_reducible rfl
           try simp only [Act.put, List.setIfInBounds_toArray, List.set_cons_zero, List.set_cons_succ])
        | fail
        first
        | (refine wpAnyH_take (i := 7) (oi := ({ dst := some 50, op := Op.move (Operand.tmp 49), type := 4, pos := "law.go:54", after := #[{ on := 6, ground := Ground.data }, { on := 3, ground := Ground.chain }], guard := none })) (v := ?_) rfl (by kernel_rfl) (by kernel_rfl) (by kernel_rfl) (fun _ _ _ h => h) (Or.inl ⟨by rfl, ?_⟩) hHeld ?_
           rotate_left
           · intro w hSw
             (try dsimp only at hSw)
             go_simp
             try with_reducible rfl
           try simp only [Act.put, List.setIfInBounds_toArray, List.set_cons_zero, List.set_cons_succ])
        | fail
        first
        | (refine wpAnyH_take (i := 8) (oi := ({ dst := some 51, op := Op.move (Operand.tmp 6), type := 33, pos := "law.go:54", after := #[{ on := 7, ground := Ground.guard }], guard := some (7, true) })) (v := ?_) rfl (by kernel_rfl) (by kernel_rfl) (by kernel_rfl) (fun _ _ _ h => h) (Or.inl ⟨by rfl, ?_⟩) hHeld ?_
           rotate_left
           · intro w hSw
             (try dsimp only at hSw)
             go_simp
             try with_reducible rfl
           try simp only [Act.put, List.setIfInBounds_toArray, List.set_cons_zero, List.set_cons_succ])
        | fail
        first
        | (refine wpAnyH_take (i := 9) (oi := ({ dst := some 52, op := Op.binOp BinOp.eql 33 (Operand.tmp 51) (Operand.const (Value.int IntKind.i64 0)) 33, type := 4, pos := "law.go:54", after := #[{ on := 8, ground := Ground.data }, { on := 7, ground := Ground.guard }], guard := some (7, true) })) (v := ?_) rfl (by kernel_rfl) (by kernel_rfl) (by kernel_rfl) (fun _ _ _ h => h) (Or.inl ⟨by rfl, ?_⟩) hHeld ?_
           rotate_left
           · intro w hSw
             (try dsimp only at hSw)
             go_simp
             try with_reducible rfl
           try simp only [Act.put, List.setIfInBounds_toArray, List.set_cons_zero, List.set_cons_succ])
        | fail
        first
        | (refine wpAnyH_take (i := 10) (oi := ({ dst := some 53, op := Op.move (Operand.tmp 8), type := 4, pos := "law.go:54", after := #[{ on := 7, ground := Ground.guard }], guard := some (7, true) })) (v := ?_) rfl (by kernel_rfl) (by kernel_rfl) (by kernel_rfl) (fun _ _ _ h => h) (Or.inl ⟨by rfl, ?_⟩) hHeld ?_
           rotate_left
           · intro w hSw
             (try dsimp only at hSw)
             go_simp
             try with_reducible rfl
           try simp only [Act.put, List.setIfInBounds_toArray, List.set_cons_zero, List.set_cons_succ])
        | fail
        first
        | (refine wpAnyH_take (i := 11) (oi := ({ dst := some 54, op := Op.binOp BinOp.eql 4 (Operand.tmp 52) (Operand.tmp 53) 4, type := 4, pos := "law.go:54", after := #[{ on := 9, ground := Ground.data }, { on := 10, ground := Ground.data }, { on := 7, ground := Ground.guard }], guard := some (7, true) })) (v := ?_) rfl (by kernel_rfl) (by kernel_rfl) (by kernel_rfl) (fun _ _ _ h => h) (Or.inl ⟨by rfl, ?_⟩) hHeld ?_
           rotate_left
           · intro w hSw
             (try dsimp only at hSw)
             go_simp
             try with_reducible rfl
           try simp only [Act.put, List.setIfInBounds_toArray, List.set_cons_zero, List.set_cons_succ])
        | fail
        first
        | (refine wpAnyH_take (i := 12) (oi := ({ dst := some 55, op := Op.pick (Operand.tmp 50) (Operand.tmp 54) (Operand.const (Value.bool false)), type := 4, pos := "law.go:54", after := #[{ on := 7, ground := Ground.data }, { on := 11, ground := Ground.data }], guard := none })) (v := ?_) rfl (by kernel_rfl) (by kernel_rfl) (by kernel_rfl) (fun _ _ _ h => h) (Or.inl ⟨by rfl, ?_⟩) hHeld ?_
           rotate_left
           · intro w hSw
             (try dsimp only at hSw)
             go_simp
             try with_reducible rfl
           try simp only [Act.put, List.setIfInBounds_toArray, List.set_cons_zero, List.set_cons_succ])
        | fail
        first
        | (refine wpAnyH_take (i := 13) (oi := ({ dst := some 56, op := Op.move (Operand.tmp 55), type := 4, pos := "law.go:54", after := #[{ on := 12, ground := Ground.data }, { on := 7, ground := Ground.chain }], guard := none })) (v := ?_) rfl (by kernel_rfl) (by kernel_rfl) (by kernel_rfl) (fun _ _ _ h => h) (Or.inl ⟨by rfl, ?_⟩) hHeld ?_
           rotate_left
           · intro w hSw
             (try dsimp only at hSw)
             go_simp
             try with_reducible rfl
           try simp only [Act.put, List.setIfInBounds_toArray, List.set_cons_zero, List.set_cons_succ])
        | fail
        first
        | (refine wpAnyH_take (i := 14) (oi := ({ dst := some 57, op := Op.move (Operand.tmp 8), type := 4, pos := "law.go:54", after := #[{ on := 13, ground := Ground.guard }], guard := some (13, true) })) (v := ?_) rfl (by kernel_rfl) (by kernel_rfl) (by kernel_rfl) (fun _ _ _ h => h) (Or.inl ⟨by rfl, ?_⟩) hHeld ?_
           rotate_left
           · intro w hSw
             (try dsimp only at hSw)
             go_simp
             try with_reducible rfl
           try simp only [Act.put, List.setIfInBounds_toArray, List.set_cons_zero, List.set_cons_succ])
        | fail
        first
        | (refine wpAnyH_take (i := 15) (oi := ({ dst := some 58, op := Op.move (Operand.tmp 57), type := 4, pos := "law.go:54", after := #[{ on := 14, ground := Ground.data }, { on := 13, ground := Ground.chain }, { on := 13, ground := Ground.guard }], guard := some (13, true) })) (v := ?_) rfl (by kernel_rfl) (by kernel_rfl) (by kernel_rfl) (fun _ _ _ h => h) (Or.inl ⟨by rfl, ?_⟩) hHeld ?_
           rotate_left
           · intro w hSw
             (try dsimp only at hSw)
             go_simp
             try with_reducible rfl
           try simp only [Act.put, List.setIfInBounds_toArray, List.set_cons_zero, List.set_cons_succ])
        | fail
        first
        | (refine wpAnyH_take (i := 16) (oi := ({ dst := some 59, op := Op.move (Operand.tmp 6), type := 33, pos := "law.go:54", after := #[{ on := 15, ground := Ground.guard }], guard := some (15, false) })) (v := undef) rfl (by kernel_rfl) (by kernel_rfl) (by kernel_rfl) (fun _ _ _ h => h) (Or.inr ⟨by rfl, rfl⟩) hHeld ?_
           try simp only [Act.put, List.setIfInBounds_toArray, List.set_cons_zero, List.set_cons_succ])
        | fail
        first
        | (refine wpAnyH_take (i := 17) (oi := ({ dst := some 60, op := Op.binOp BinOp.eql 33 (Operand.tmp 59) (Operand.const (Value.int IntKind.i64 3)) 33, type := 4, pos := "law.go:54", after := #[{ on := 16, ground := Ground.data }, { on := 15, ground := Ground.guard }], guard := some (15, false) })) (v := undef) rfl (by kernel_rfl) (by kernel_rfl) (by kernel_rfl) (fun _ _ _ h => h) (Or.inr ⟨by rfl, rfl⟩) hHeld ?_
           try simp only [Act.put, List.setIfInBounds_toArray, List.set_cons_zero, List.set_cons_succ])
        | fail
        first
        | (refine wpAnyH_take (i := 18) (oi := ({ dst := some 61, op := Op.pick (Operand.tmp 58) (Operand.const (Value.bool true)) (Operand.tmp 60), type := 4, pos := "law.go:54", after := #[{ on := 15, ground := Ground.data }, { on := 17, ground := Ground.data }, { on := 13, ground := Ground.guard }], guard := some (13, true) })) (v := ?_) rfl (by kernel_rfl) (by kernel_rfl) (by kernel_rfl) (fun _ _ _ h => h) (Or.inl ⟨by rfl, ?_⟩) hHeld ?_
           rotate_left
           · intro w hSw
             (try dsimp only at hSw)
             go_simp
             try with_reducible rfl
           try simp only [Act.put, List.setIfInBounds_toArray, List.set_cons_zero, List.set_cons_succ])
        | fail
        first
        | (refine wpAnyH_take (i := 19) (oi := ({ dst := some 62, op := Op.pick (Operand.tmp 56) (Operand.tmp 61) (Operand.const (Value.bool false)), type := 4, pos := "law.go:54", after := #[{ on := 13, ground := Ground.data }, { on := 18, ground := Ground.data }], guard := none })) (v := ?_) rfl (by kernel_rfl) (by kernel_rfl) (by kernel_rfl) (fun _ _ _ h => h) (Or.inl ⟨by rfl, ?_⟩) hHeld ?_
           rotate_left
           · intro w hSw
             (try dsimp only at hSw)
             go_simp
             try with_reducible rfl
           try simp only [Act.put, List.setIfInBounds_toArray, List.set_cons_zero, List.set_cons_succ])
        | fail
        first
        | (refine wpAnyH_take (i := 20) (oi := ({ dst := some 63, op := Op.move (Operand.tmp 62), type := 4, pos := "law.go:54", after := #[{ on := 19, ground := Ground.data }, { on := 15, ground := Ground.chain }], guard := none })) (v := ?_) rfl (by kernel_rfl) (by kernel_rfl) (by kernel_rfl) (fun _ _ _ h => h) (Or.inl ⟨by rfl, ?_⟩) hHeld ?_
           rotate_left
           · intro w hSw
             (try dsimp only at hSw)
             go_simp
             try with_reducible rfl
           try simp only [Act.put, List.setIfInBounds_toArray, List.set_cons_zero, List.set_cons_succ])
        | fail
        first
        | (refine wpAnyH_take (i := 21) (oi := ({ dst := some 64, op := Op.load 51 (Operand.tmp 9), type := 51, pos := "law.go:54", after := #[{ on := 20, ground := Ground.guard }], guard := some (20, true) })) (v := ?_) rfl (by kernel_rfl) (by kernel_rfl) (by kernel_rfl) (fun _ _ _ h => h) (Or.inl ⟨by rfl, ?_⟩) hHeld ?_
           rotate_left
           · intro w hSw
             (try dsimp only at hSw)
             go_simp
             try with_reducible rfl
           try simp only [Act.put, List.setIfInBounds_toArray, List.set_cons_zero, List.set_cons_succ])
        | fail
        first
        | (refine wpAnyH_take (i := 23) (oi := ({ dst := some 66, op := Op.load 52 (Operand.tmp 11), type := 52, pos := "law.go:54", after := #[{ on := 20, ground := Ground.guard }], guard := some (20, true) })) (v := ?_) rfl (by kernel_rfl) (by kernel_rfl) (by kernel_rfl) (fun _ _ _ h => h) (Or.inl ⟨by rfl, ?_⟩) hHeld ?_
           rotate_left
           · intro w hSw
             (try dsimp only at hSw)
             go_simp
             try with_reducible rfl
           try simp only [Act.put, List.setIfInBounds_toArray, List.set_cons_zero, List.set_cons_succ])
        | fail
        refine wpAnyH_ready (rs := [22]) (by kernel_rfl) (by simp) ?_
        refine AllReadyH.cons (o := ({ dst := some 65, op := Op.call { callee := Callee.value (Operand.func 28), args := #[Operand.tmp 64], argTypes := #[51] }, type := 52, pos := "law.go:54", after := #[{ on := 21, ground := Ground.data }, { on := 20, ground := Ground.chain }, { on := 20, ground := Ground.guard }], guard := some (20, true) })) rfl (fun K hK => ?_) AllReadyH.nil
        go_simp
        refine (CA2.out _).mono ?_
        rintro e w13 ⟨rfl, hb13⟩
        have HB13 := Lib.hid (below_next HB12.out HB12.out.size hb13)
        clear hb13
        (try dsimp only)
        refine hK.out _ _ ?_ (fun hHeld2 => ?_)
        · (try dsimp only)
          exact KC.out _ HB13.out
        clear hK K hHeld
        rename _ => hHeld
        try simp only [Act.put, List.setIfInBounds_toArray, List.set_cons_zero, List.set_cons_succ]
        first
        | (refine wpAnyH_take (i := 24) (oi := ({ dst := some 67, op := Op.binOp BinOp.eql 52 (Operand.tmp 65) (Operand.tmp 66) 52, type := 4, pos := "law.go:54", after := #[{ on := 22, ground := Ground.data }, { on := 23, ground := Ground.data }, { on := 20, ground := Ground.guard }], guard := some (20, true) })) (v := ?_) rfl (by kernel_rfl) (by kernel_rfl) (by kernel_rfl) (fun _ _ _ h => h) (Or.inl ⟨by rfl, ?_⟩) hHeld ?_
           rotate_left
           · intro w hSw
             (try dsimp only at hSw)
             go_simp
             try with_reducible rfl
           try simp only [Act.put, List.setIfInBounds_toArray, List.set_cons_zero, List.set_cons_succ])
        | fail
        first
        | (refine wpAnyH_take (i := 25) (oi := ({ dst := some 68, op := Op.pick (Operand.tmp 63) (Operand.tmp 67) (Operand.const (Value.bool false)), type := 4, pos := "law.go:54", after := #[{ on := 20, ground := Ground.data }, { on := 24, ground := Ground.data }], guard := none })) (v := ?_) rfl (by kernel_rfl) (by kernel_rfl) (by kernel_rfl) (fun _ _ _ h => h) (Or.inl ⟨by rfl, ?_⟩) hHeld ?_
           rotate_left
           · intro w hSw
             (try dsimp only at hSw)
             go_simp
             try with_reducible rfl
           try simp only [Act.put, List.setIfInBounds_toArray, List.set_cons_zero, List.set_cons_succ])
        | fail
        first
        | (refine wpAnyH_take (i := 26) (oi := ({ dst := some 69, op := Op.move (Operand.tmp 68), type := 4, pos := "law.go:54", after := #[{ on := 25, ground := Ground.data }, { on := 22, ground := Ground.chain }], guard := none })) (v := ?_) rfl (by kernel_rfl) (by kernel_rfl) (by kernel_rfl) (fun _ _ _ h => h) (Or.inl ⟨by rfl, ?_⟩) hHeld ?_
           rotate_left
           · intro w hSw
             (try dsimp only at hSw)
             go_simp
             try with_reducible rfl
           try simp only [Act.put, List.setIfInBounds_toArray, List.set_cons_zero, List.set_cons_succ])
        | fail
        first
        | (refine wpAnyH_take (i := 27) (oi := ({ dst := some 70, op := Op.move (Operand.tmp 10), type := 33, pos := "law.go:54", after := #[{ on := 26, ground := Ground.guard }], guard := some (26, true) })) (v := ?_) rfl (by kernel_rfl) (by kernel_rfl) (by kernel_rfl) (fun _ _ _ h => h) (Or.inl ⟨by rfl, ?_⟩) hHeld ?_
           rotate_left
           · intro w hSw
             (try dsimp only at hSw)
             go_simp
             try with_reducible rfl
           try simp only [Act.put, List.setIfInBounds_toArray, List.set_cons_zero, List.set_cons_succ])
        | fail
        first
        | (refine wpAnyH_take (i := 28) (oi := ({ dst := some 71, op := Op.binOp BinOp.eql 33 (Operand.tmp 70) (Operand.const (Value.int IntKind.i64 0)) 33, type := 4, pos := "law.go:54", after := #[{ on := 27, ground := Ground.data }, { on := 26, ground := Ground.guard }], guard := some (26, true) })) (v := ?_) rfl (by kernel_rfl) (by kernel_rfl) (by kernel_rfl) (fun _ _ _ h => h) (Or.inl ⟨by rfl, ?_⟩) hHeld ?_
           rotate_left
           · intro w hSw
             (try dsimp only at hSw)
             go_simp
             try with_reducible rfl
           try simp only [Act.put, List.setIfInBounds_toArray, List.set_cons_zero, List.set_cons_succ])
        | fail
        first
        | (refine wpAnyH_take (i := 29) (oi := ({ dst := some 72, op := Op.move (Operand.tmp 12), type := 4, pos := "law.go:54", after := #[{ on := 26, ground := Ground.guard }], guard := some (26, true) })) (v := ?_) rfl (by kernel_rfl) (by kernel_rfl) (by kernel_rfl) (fun _ _ _ h => h) (Or.inl ⟨by rfl, ?_⟩) hHeld ?_
           rotate_left
           · intro w hSw
             (try dsimp only at hSw)
             go_simp
             try with_reducible rfl
           try simp only [Act.put, List.setIfInBounds_toArray, List.set_cons_zero, List.set_cons_succ])
        | fail
        first
        | (refine wpAnyH_take (i := 30) (oi := ({ dst := some 73, op := Op.binOp BinOp.eql 4 (Operand.tmp 71) (Operand.tmp 72) 4, type := 4, pos := "law.go:54", after := #[{ on := 28, ground := Ground.data }, { on := 29, ground := Ground.data }, { on := 26, ground := Ground.guard }], guard := some (26, true) })) (v := ?_) rfl (by kernel_rfl) (by kernel_rfl) (by kernel_rfl) (fun _ _ _ h => h) (Or.inl ⟨by rfl, ?_⟩) hHeld ?_
           rotate_left
           · intro w hSw
             (try dsimp only at hSw)
             go_simp
             try with_reducible rfl
           try simp only [Act.put, List.setIfInBounds_toArray, List.set_cons_zero, List.set_cons_succ])
        | fail
        first
        | (refine wpAnyH_take (i := 31) (oi := ({ dst := some 74, op := Op.pick (Operand.tmp 69) (Operand.tmp 73) (Operand.const (Value.bool false)), type := 4, pos := "law.go:54", after := #[{ on := 26, ground := Ground.data }, { on := 30, ground := Ground.data }], guard := none })) (v := ?_) rfl (by kernel_rfl) (by kernel_rfl) (by kernel_rfl) (fun _ _ _ h => h) (Or.inl ⟨by rfl, ?_⟩) hHeld ?_
           rotate_left
           · intro w hSw
             (try dsimp only at hSw)
             go_simp
             try with_reducible rfl
           try simp only [Act.put, List.setIfInBounds_toArray, List.set_cons_zero, List.set_cons_succ])
        | fail
        first
        | (refine wpAnyH_take (i := 32) (oi := ({ dst := some 75, op := Op.move (Operand.tmp 74), type := 4, pos := "law.go:54", after := #[{ on := 31, ground := Ground.data }, { on := 26, ground := Ground.chain }], guard := none })) (v := ?_) rfl (by kernel_rfl) (by kernel_rfl) (by kernel_rfl) (fun _ _ _ h => h) (Or.inl ⟨by rfl, ?_⟩) hHeld ?_
           rotate_left
           · intro w hSw
             (try dsimp only at hSw)
             go_simp
             try with_reducible rfl
           try simp only [Act.put, List.setIfInBounds_toArray, List.set_cons_zero, List.set_cons_succ])
        | fail
        first
        | (refine wpAnyH_take (i := 33) (oi := ({ dst := some 76, op := Op.move (Operand.tmp 12), type := 4, pos := "law.go:54", after := #[{ on := 32, ground := Ground.guard }], guard := some (32, true) })) (v := ?_) rfl (by kernel_rfl) (by kernel_rfl) (by kernel_rfl) (fun _ _ _ h => h) (Or.inl ⟨by rfl, ?_⟩) hHeld ?_
           rotate_left
           · intro w hSw
             (try dsimp only at hSw)
             go_simp
             try with_reducible rfl
           try simp only [Act.put, List.setIfInBounds_toArray, List.set_cons_zero, List.set_cons_succ])
        | fail
        first
        | (refine wpAnyH_take (i := 34) (oi := ({ dst := some 77, op := Op.move (Operand.tmp 76), type := 4, pos := "law.go:54", after := #[{ on := 33, ground := Ground.data }, { on := 32, ground := Ground.chain }, { on := 32, ground := Ground.guard }], guard := some (32, true) })) (v := ?_) rfl (by kernel_rfl) (by kernel_rfl) (by kernel_rfl) (fun _ _ _ h => h) (Or.inl ⟨by rfl, ?_⟩) hHeld ?_
           rotate_left
           · intro w hSw
             (try dsimp only at hSw)
             go_simp
             try with_reducible rfl
           try simp only [Act.put, List.setIfInBounds_toArray, List.set_cons_zero, List.set_cons_succ])
        | fail
        first
        | (refine wpAnyH_take (i := 35) (oi := ({ dst := some 78, op := Op.move (Operand.tmp 10), type := 33, pos := "law.go:54", after := #[{ on := 34, ground := Ground.guard }], guard := some (34, false) })) (v := ?_) rfl (by kernel_rfl) (by kernel_rfl) (by kernel_rfl) (fun _ _ _ h => h) (Or.inl ⟨by rfl, ?_⟩) hHeld ?_
           rotate_left
           · intro w hSw
             (try dsimp only at hSw)
             go_simp
             try with_reducible rfl
           try simp only [Act.put, List.setIfInBounds_toArray, List.set_cons_zero, List.set_cons_succ])
        | fail
        first
        | (refine wpAnyH_take (i := 36) (oi := ({ dst := some 79, op := Op.binOp BinOp.eql 33 (Operand.tmp 78) (Operand.const (Value.int IntKind.i64 3)) 33, type := 4, pos := "law.go:54", after := #[{ on := 35, ground := Ground.data }, { on := 34, ground := Ground.guard }], guard := some (34, false) })) (v := ?_) rfl (by kernel_rfl) (by kernel_rfl) (by kernel_rfl) (fun _ _ _ h => h) (Or.inl ⟨by rfl, ?_⟩) hHeld ?_
           rotate_left
           · intro w hSw
             (try dsimp only at hSw)
             go_simp
             try with_reducible rfl
           try simp only [Act.put, List.setIfInBounds_toArray, List.set_cons_zero, List.set_cons_succ])
        | fail
        first
        | (refine wpAnyH_take (i := 37) (oi := ({ dst := some 80, op := Op.pick (Operand.tmp 77) (Operand.const (Value.bool true)) (Operand.tmp 79), type := 4, pos := "law.go:54", after := #[{ on := 34, ground := Ground.data }, { on := 36, ground := Ground.data }, { on := 32, ground := Ground.guard }], guard := some (32, true) })) (v := ?_) rfl (by kernel_rfl) (by kernel_rfl) (by kernel_rfl) (fun _ _ _ h => h) (Or.inl ⟨by rfl, ?_⟩) hHeld ?_
           rotate_left
           · intro w hSw
             (try dsimp only at hSw)
             go_simp
             try with_reducible rfl
           try simp only [Act.put, List.setIfInBounds_toArray, List.set_cons_zero, List.set_cons_succ])
        | fail
        first
        | (refine wpAnyH_take (i := 38) (oi := ({ dst := some 81, op := Op.pick (Operand.tmp 75) (Operand.tmp 80) (Operand.const (Value.bool false)), type := 4, pos := "law.go:54", after := #[{ on := 32, ground := Ground.data }, { on := 37, ground := Ground.data }], guard := none })) (v := ?_) rfl (by kernel_rfl) (by kernel_rfl) (by kernel_rfl) (fun _ _ _ h => h) (Or.inl ⟨by rfl, ?_⟩) hHeld ?_
           rotate_left
           · intro w hSw
             (try dsimp only at hSw)
             go_simp
             try with_reducible rfl
           try simp only [Act.put, List.setIfInBounds_toArray, List.set_cons_zero, List.set_cons_succ])
        | fail
        first
        | (refine wpAnyH_take (i := 39) (oi := ({ dst := some 4, op := Op.assign (Operand.tmp 81), type := 4, pos := "law.go:54", after := #[{ on := 38, ground := Ground.data }, { on := 34, ground := Ground.chain }, { on := 0, ground := Ground.phase }, { on := 1, ground := Ground.phase }, { on := 2, ground := Ground.phase }, { on := 3, ground := Ground.phase }, { on := 4, ground := Ground.phase }, { on := 5, ground := Ground.phase }, { on := 6, ground := Ground.phase }, { on := 7, ground := Ground.phase }, { on := 8, ground := Ground.phase }, { on := 9, ground := Ground.phase }, { on := 10, ground := Ground.phase }, { on := 11, ground := Ground.phase }, { on := 12, ground := Ground.phase }, { on := 13, ground := Ground.phase }, { on := 14, ground := Ground.phase }, { on := 15, ground := Ground.phase }, { on := 16, ground := Ground.phase }, { on := 17, ground := Ground.phase }, { on := 18, ground := Ground.phase }, { on := 19, ground := Ground.phase }, { on := 20, ground := Ground.phase }, { on := 21, ground := Ground.phase }, { on := 22, ground := Ground.phase }, { on := 23, ground := Ground.phase }, { on := 24, ground := Ground.phase }, { on := 25, ground := Ground.phase }, { on := 26, ground := Ground.phase }, { on := 27, ground := Ground.phase }, { on := 28, ground := Ground.phase }, { on := 29, ground := Ground.phase }, { on := 30, ground := Ground.phase }, { on := 31, ground := Ground.phase }, { on := 32, ground := Ground.phase }, { on := 33, ground := Ground.phase }, { on := 34, ground := Ground.phase }, { on := 35, ground := Ground.phase }, { on := 36, ground := Ground.phase }, { on := 37, ground := Ground.phase }, { on := 38, ground := Ground.phase }], guard := none })) (v := ?_) rfl (by kernel_rfl) (by kernel_rfl) (by kernel_rfl) (fun _ _ _ h => h) (Or.inl ⟨by rfl, ?_⟩) hHeld ?_
           rotate_left
           · intro w hSw
             (try dsimp only at hSw)
             go_simp
             try with_reducible rfl
           try simp only [Act.put, List.setIfInBounds_toArray, List.set_cons_zero, List.set_cons_succ])
        | fail
        refine wpAnyH_done (by kernel_rfl) ?_ _
        go_wp2_with fail
        go_ret
        exact ⟨rfl, HBE.out _ (below_next HB10.out HB10.out.size HB13.out)⟩
      · refine wp_region_held_drew (S := (fun w' => (w'.cell? ⟨ga, 0, none⟩ = some (.bool pi) ∧ w'.cell? ⟨ga, 1, none⟩ = some (.int .u64 pn) ∧ w'.cell? ⟨ga, 2, none⟩ = some (.int .u64 ps) ∧ w'.cell? ⟨ga, 3, none⟩ = some (.string ph) ∧ w'.cell? ⟨ga, 4, none⟩ = some (.string pd)) ∧ (w'.cell? ⟨gb, 0, none⟩ = some (.bool pi) ∧ w'.cell? ⟨gb, 1, none⟩ = some (.int .u64 pn) ∧ w'.cell? ⟨gb, 2, none⟩ = some (.int .u64 ps) ∧ w'.cell? ⟨gb, 3, none⟩ = some (.string ph) ∧ w'.cell? ⟨gb, 4, none⟩ = some (.string pd)) ∧ (w'.cell? ⟨gc, 0, none⟩ = some (.bool qi) ∧ w'.cell? ⟨gc, 1, none⟩ = some (.int .u64 qn) ∧ w'.cell? ⟨gc, 2, none⟩ = some (.int .u64 qs) ∧ w'.cell? ⟨gc, 3, none⟩ = some (.string qh) ∧ w'.cell? ⟨gc, 4, none⟩ = some (.string qd)) ∧ (w'.cell? ⟨gd, 0, none⟩ = some (.bool qi) ∧ w'.cell? ⟨gd, 1, none⟩ = some (.int .u64 qn) ∧ w'.cell? ⟨gd, 2, none⟩ = some (.int .u64 qs) ∧ w'.cell? ⟨gd, 3, none⟩ = some (.string qh) ∧ w'.cell? ⟨gd, 4, none⟩ = some (.string qd)))) (by kernel_rfl) (KC.out _ HBd.out) (fun hHeld => ?_)
        refine wpAnyH_ready (rs := [0]) (by kernel_rfl) (by simp) ?_
        refine AllReadyH.cons (o := ({ dst := some 43, op := Op.call { callee := Callee.value (Operand.func 27), args := #[], argTypes := #[] }, type := 4, pos := "law.go:54", after := #[], guard := none })) rfl (fun K hK => ?_) AllReadyH.nil
        go_simp
        refine (CA.out _ HGd.out).mono ?_
        rintro e w11 ⟨rfl, hb11⟩
        have HB11 := Lib.hid (below_next HBd.out HBd.out.size hb11)
        clear hb11
        (try dsimp only)
        refine hK.out _ _ ?_ (fun hHeld2 => ?_)
        · (try dsimp only)
          exact KC.out _ HB11.out
        clear hK K hHeld
        rename _ => hHeld
        try simp only [Act.put, List.setIfInBounds_toArray, List.set_cons_zero, List.set_cons_succ]
        first
        | (refine wpAnyH_take (i := 1) (oi := ({ dst := some 44, op := Op.move (Operand.tmp 43), type := 4, pos := "law.go:54", after := #[{ on := 0, ground := Ground.data }, { on := 0, ground := Ground.chain }], guard := none })) (v := ?_) rfl (by kernel_rfl) (by kernel_rfl) (by kernel_rfl) (fun _ _ _ h => h) (Or.inl ⟨by rfl, ?_⟩) hHeld ?_
           rotate_left
           · intro w hSw
             (try dsimp only at hSw)
             go_simp
             try with_reducible rfl
           try simp only [Act.put, List.setIfInBounds_toArray, List.set_cons_zero, List.set_cons_succ])
        | fail
        first
        | (refine wpAnyH_take (i := 2) (oi := ({ dst := some 45, op := Op.load 51 (Operand.tmp 5), type := 51, pos := "law.go:54", after := #[{ on := 1, ground := Ground.guard }], guard := some (1, true) })) (v := ?_) rfl (by kernel_rfl) (by kernel_rfl) (by kernel_rfl) (fun _ _ _ h => h) (Or.inl ⟨by rfl, ?_⟩) hHeld ?_
           rotate_left
           · intro w hSw
             (try dsimp only at hSw)
             go_simp
             try with_reducible rfl
           try simp only [Act.put, List.setIfInBounds_toArray, List.set_cons_zero, List.set_cons_succ])
        | fail
        first
        | (refine wpAnyH_take (i := 4) (oi := ({ dst := some 47, op := Op.load 52 (Operand.tmp 7), type := 52, pos := "law.go:54", after := #[{ on := 1, ground := Ground.guard }], guard := some (1, true) })) (v := ?_) rfl (by kernel_rfl) (by kernel_rfl) (by kernel_rfl) (fun _ _ _ h => h) (Or.inl ⟨by rfl, ?_⟩) hHeld ?_
           rotate_left
           · intro w hSw
             (try dsimp only at hSw)
             go_simp
             try with_reducible rfl
           try simp only [Act.put, List.setIfInBounds_toArray, List.set_cons_zero, List.set_cons_succ])
        | fail
        refine wpAnyH_ready (rs := [3]) (by kernel_rfl) (by simp) ?_
        refine AllReadyH.cons (o := ({ dst := some 46, op := Op.call { callee := Callee.value (Operand.func 28), args := #[Operand.tmp 45], argTypes := #[51] }, type := 52, pos := "law.go:54", after := #[{ on := 2, ground := Ground.data }, { on := 1, ground := Ground.chain }, { on := 1, ground := Ground.guard }], guard := some (1, true) })) rfl (fun K hK => ?_) AllReadyH.nil
        go_simp
        refine (CA1.out _).mono ?_
        rintro e w12 ⟨rfl, hb12⟩
        have HB12 := Lib.hid (below_next HB11.out HB11.out.size hb12)
        clear hb12
        (try dsimp only)
        refine hK.out _ _ ?_ (fun hHeld2 => ?_)
        · (try dsimp only)
          exact KC.out _ HB12.out
        clear hK K hHeld
        rename _ => hHeld
        try simp only [Act.put, List.setIfInBounds_toArray, List.set_cons_zero, List.set_cons_succ]
        first
        | (refine wpAnyH_take (i := 5) (oi := ({ dst := some 48, op := Op.binOp BinOp.eql 52 (Operand.tmp 46) (Operand.tmp 47) 52, type := 4, pos := "law.go:54", after := #[{ on := 3, ground := Ground.data }, { on := 4, ground := Ground.data }, { on := 1, ground := Ground.guard }], guard := some (1, true) })) (v := ?_) rfl (by kernel_rfl) (by kernel_rfl) (by kernel_rfl) (fun _ _ _ h => h) (Or.inl ⟨by rfl, ?_⟩) hHeld ?_
           rotate_left
           · intro w hSw
             (try dsimp only at hSw)
             go_simp
             try with_reducible rfl
           try simp only [Act.put, List.setIfInBounds_toArray, List.set_cons_zero, List.set_cons_succ])
        | fail
        first
        | (refine wpAnyH_take (i := 6) (oi := ({ dst := some 49, op := Op.pick (Operand.tmp 44) (Operand.tmp 48) (Operand.const (Value.bool false)), type := 4, pos := "law.go:54", after := #[{ on := 1, ground := Ground.data }, { on := 5, ground := Ground.data }], guard := none })) (v := ?_) rfl (by kernel_rfl) (by kernel_rfl) (by kernel_rfl) (fun _ _ _ h => h) (Or.inl ⟨by rfl, ?_⟩) hHeld ?_
           rotate_left
           · intro w hSw
             (try dsimp only at hSw)
             go_simp
             try with_reducible rfl
           try simp only [Act.put, List.setIfInBounds_toArray, List.set_cons_zero, List.set_cons_succ])
        | fail
        first
        | (refine wpAnyH_take (i := 7) (oi := ({ dst := some 50, op := Op.move (Operand.tmp 49), type := 4, pos := "law.go:54", after := #[{ on := 6, ground := Ground.data }, { on := 3, ground := Ground.chain }], guard := none })) (v := ?_) rfl (by kernel_rfl) (by kernel_rfl) (by kernel_rfl) (fun _ _ _ h => h) (Or.inl ⟨by rfl, ?_⟩) hHeld ?_
           rotate_left
           · intro w hSw
             (try dsimp only at hSw)
             go_simp
             try with_reducible rfl
           try simp only [Act.put, List.setIfInBounds_toArray, List.set_cons_zero, List.set_cons_succ])
        | fail
        first
        | (refine wpAnyH_take (i := 8) (oi := ({ dst := some 51, op := Op.move (Operand.tmp 6), type := 33, pos := "law.go:54", after := #[{ on := 7, ground := Ground.guard }], guard := some (7, true) })) (v := ?_) rfl (by kernel_rfl) (by kernel_rfl) (by kernel_rfl) (fun _ _ _ h => h) (Or.inl ⟨by rfl, ?_⟩) hHeld ?_
           rotate_left
           · intro w hSw
             (try dsimp only at hSw)
             go_simp
             try with_reducible rfl
           try simp only [Act.put, List.setIfInBounds_toArray, List.set_cons_zero, List.set_cons_succ])
        | fail
        first
        | (refine wpAnyH_take (i := 9) (oi := ({ dst := some 52, op := Op.binOp BinOp.eql 33 (Operand.tmp 51) (Operand.const (Value.int IntKind.i64 0)) 33, type := 4, pos := "law.go:54", after := #[{ on := 8, ground := Ground.data }, { on := 7, ground := Ground.guard }], guard := some (7, true) })) (v := ?_) rfl (by kernel_rfl) (by kernel_rfl) (by kernel_rfl) (fun _ _ _ h => h) (Or.inl ⟨by rfl, ?_⟩) hHeld ?_
           rotate_left
           · intro w hSw
             (try dsimp only at hSw)
             go_simp
             try with_reducible rfl
           try simp only [Act.put, List.setIfInBounds_toArray, List.set_cons_zero, List.set_cons_succ])
        | fail
        first
        | (refine wpAnyH_take (i := 10) (oi := ({ dst := some 53, op := Op.move (Operand.tmp 8), type := 4, pos := "law.go:54", after := #[{ on := 7, ground := Ground.guard }], guard := some (7, true) })) (v := ?_) rfl (by kernel_rfl) (by kernel_rfl) (by kernel_rfl) (fun _ _ _ h => h) (Or.inl ⟨by rfl, ?_⟩) hHeld ?_
           rotate_left
           · intro w hSw
             (try dsimp only at hSw)
             go_simp
             try with_reducible rfl
           try simp only [Act.put, List.setIfInBounds_toArray, List.set_cons_zero, List.set_cons_succ])
        | fail
        first
        | (refine wpAnyH_take (i := 11) (oi := ({ dst := some 54, op := Op.binOp BinOp.eql 4 (Operand.tmp 52) (Operand.tmp 53) 4, type := 4, pos := "law.go:54", after := #[{ on := 9, ground := Ground.data }, { on := 10, ground := Ground.data }, { on := 7, ground := Ground.guard }], guard := some (7, true) })) (v := ?_) rfl (by kernel_rfl) (by kernel_rfl) (by kernel_rfl) (fun _ _ _ h => h) (Or.inl ⟨by rfl, ?_⟩) hHeld ?_
           rotate_left
           · intro w hSw
             (try dsimp only at hSw)
             go_simp
             try with_reducible rfl
           try simp only [Act.put, List.setIfInBounds_toArray, List.set_cons_zero, List.set_cons_succ])
        | fail
        first
        | (refine wpAnyH_take (i := 12) (oi := ({ dst := some 55, op := Op.pick (Operand.tmp 50) (Operand.tmp 54) (Operand.const (Value.bool false)), type := 4, pos := "law.go:54", after := #[{ on := 7, ground := Ground.data }, { on := 11, ground := Ground.data }], guard := none })) (v := ?_) rfl (by kernel_rfl) (by kernel_rfl) (by kernel_rfl) (fun _ _ _ h => h) (Or.inl ⟨by rfl, ?_⟩) hHeld ?_
           rotate_left
           · intro w hSw
             (try dsimp only at hSw)
             go_simp
             try with_reducible rfl
           try simp only [Act.put, List.setIfInBounds_toArray, List.set_cons_zero, List.set_cons_succ])
        | fail
        first
        | (refine wpAnyH_take (i := 13) (oi := ({ dst := some 56, op := Op.move (Operand.tmp 55), type := 4, pos := "law.go:54", after := #[{ on := 12, ground := Ground.data }, { on := 7, ground := Ground.chain }], guard := none })) (v := ?_) rfl (by kernel_rfl) (by kernel_rfl) (by kernel_rfl) (fun _ _ _ h => h) (Or.inl ⟨by rfl, ?_⟩) hHeld ?_
           rotate_left
           · intro w hSw
             (try dsimp only at hSw)
             go_simp
             try with_reducible rfl
           try simp only [Act.put, List.setIfInBounds_toArray, List.set_cons_zero, List.set_cons_succ])
        | fail
        first
        | (refine wpAnyH_take (i := 14) (oi := ({ dst := some 57, op := Op.move (Operand.tmp 8), type := 4, pos := "law.go:54", after := #[{ on := 13, ground := Ground.guard }], guard := some (13, true) })) (v := ?_) rfl (by kernel_rfl) (by kernel_rfl) (by kernel_rfl) (fun _ _ _ h => h) (Or.inl ⟨by rfl, ?_⟩) hHeld ?_
           rotate_left
           · intro w hSw
             (try dsimp only at hSw)
             go_simp
             try with_reducible rfl
           try simp only [Act.put, List.setIfInBounds_toArray, List.set_cons_zero, List.set_cons_succ])
        | fail
        first
        | (refine wpAnyH_take (i := 15) (oi := ({ dst := some 58, op := Op.move (Operand.tmp 57), type := 4, pos := "law.go:54", after := #[{ on := 14, ground := Ground.data }, { on := 13, ground := Ground.chain }, { on := 13, ground := Ground.guard }], guard := some (13, true) })) (v := ?_) rfl (by kernel_rfl) (by kernel_rfl) (by kernel_rfl) (fun _ _ _ h => h) (Or.inl ⟨by rfl, ?_⟩) hHeld ?_
           rotate_left
           · intro w hSw
             (try dsimp only at hSw)
             go_simp
             try with_reducible rfl
           try simp only [Act.put, List.setIfInBounds_toArray, List.set_cons_zero, List.set_cons_succ])
        | fail
        first
        | (refine wpAnyH_take (i := 16) (oi := ({ dst := some 59, op := Op.move (Operand.tmp 6), type := 33, pos := "law.go:54", after := #[{ on := 15, ground := Ground.guard }], guard := some (15, false) })) (v := ?_) rfl (by kernel_rfl) (by kernel_rfl) (by kernel_rfl) (fun _ _ _ h => h) (Or.inl ⟨by rfl, ?_⟩) hHeld ?_
           rotate_left
           · intro w hSw
             (try dsimp only at hSw)
             go_simp
             try with_reducible rfl
           try simp only [Act.put, List.setIfInBounds_toArray, List.set_cons_zero, List.set_cons_succ])
        | fail
        first
        | (refine wpAnyH_take (i := 17) (oi := ({ dst := some 60, op := Op.binOp BinOp.eql 33 (Operand.tmp 59) (Operand.const (Value.int IntKind.i64 3)) 33, type := 4, pos := "law.go:54", after := #[{ on := 16, ground := Ground.data }, { on := 15, ground := Ground.guard }], guard := some (15, false) })) (v := ?_) rfl (by kernel_rfl) (by kernel_rfl) (by kernel_rfl) (fun _ _ _ h => h) (Or.inl ⟨by rfl, ?_⟩) hHeld ?_
           rotate_left
           · intro w hSw
             (try dsimp only at hSw)
             go_simp
             try with_reducible rfl
           try simp only [Act.put, List.setIfInBounds_toArray, List.set_cons_zero, List.set_cons_succ])
        | fail
        first
        | (refine wpAnyH_take (i := 18) (oi := ({ dst := some 61, op := Op.pick (Operand.tmp 58) (Operand.const (Value.bool true)) (Operand.tmp 60), type := 4, pos := "law.go:54", after := #[{ on := 15, ground := Ground.data }, { on := 17, ground := Ground.data }, { on := 13, ground := Ground.guard }], guard := some (13, true) })) (v := ?_) rfl (by kernel_rfl) (by kernel_rfl) (by kernel_rfl) (fun _ _ _ h => h) (Or.inl ⟨by rfl, ?_⟩) hHeld ?_
           rotate_left
           · intro w hSw
             (try dsimp only at hSw)
             go_simp
             try with_reducible rfl
           try simp only [Act.put, List.setIfInBounds_toArray, List.set_cons_zero, List.set_cons_succ])
        | fail
        first
        | (refine wpAnyH_take (i := 19) (oi := ({ dst := some 62, op := Op.pick (Operand.tmp 56) (Operand.tmp 61) (Operand.const (Value.bool false)), type := 4, pos := "law.go:54", after := #[{ on := 13, ground := Ground.data }, { on := 18, ground := Ground.data }], guard := none })) (v := ?_) rfl (by kernel_rfl) (by kernel_rfl) (by kernel_rfl) (fun _ _ _ h => h) (Or.inl ⟨by rfl, ?_⟩) hHeld ?_
           rotate_left
           · intro w hSw
             (try dsimp only at hSw)
             go_simp
             try with_reducible rfl
           try simp only [Act.put, List.setIfInBounds_toArray, List.set_cons_zero, List.set_cons_succ])
        | fail
        first
        | (refine wpAnyH_take (i := 20) (oi := ({ dst := some 63, op := Op.move (Operand.tmp 62), type := 4, pos := "law.go:54", after := #[{ on := 19, ground := Ground.data }, { on := 15, ground := Ground.chain }], guard := none })) (v := ?_) rfl (by kernel_rfl) (by kernel_rfl) (by kernel_rfl) (fun _ _ _ h => h) (Or.inl ⟨by rfl, ?_⟩) hHeld ?_
           rotate_left
           · intro w hSw
             (try dsimp only at hSw)
             go_simp
             try with_reducible rfl
           try simp only [Act.put, List.setIfInBounds_toArray, List.set_cons_zero, List.set_cons_succ])
        | fail
        first
        | (refine wpAnyH_take (i := 21) (oi := ({ dst := some 64, op := Op.load 51 (Operand.tmp 9), type := 51, pos := "law.go:54", after := #[{ on := 20, ground := Ground.guard }], guard := some (20, true) })) (v := ?_) rfl (by kernel_rfl) (by kernel_rfl) (by kernel_rfl) (fun _ _ _ h => h) (Or.inl ⟨by rfl, ?_⟩) hHeld ?_
           rotate_left
           · intro w hSw
             (try dsimp only at hSw)
             go_simp
             try with_reducible rfl
           try simp only [Act.put, List.setIfInBounds_toArray, List.set_cons_zero, List.set_cons_succ])
        | fail
        first
        | (refine wpAnyH_take (i := 23) (oi := ({ dst := some 66, op := Op.load 52 (Operand.tmp 11), type := 52, pos := "law.go:54", after := #[{ on := 20, ground := Ground.guard }], guard := some (20, true) })) (v := ?_) rfl (by kernel_rfl) (by kernel_rfl) (by kernel_rfl) (fun _ _ _ h => h) (Or.inl ⟨by rfl, ?_⟩) hHeld ?_
           rotate_left
           · intro w hSw
             (try dsimp only at hSw)
             go_simp
             try with_reducible rfl
           try simp only [Act.put, List.setIfInBounds_toArray, List.set_cons_zero, List.set_cons_succ])
        | fail
        refine wpAnyH_ready (rs := [22]) (by kernel_rfl) (by simp) ?_
        refine AllReadyH.cons (o := ({ dst := some 65, op := Op.call { callee := Callee.value (Operand.func 28), args := #[Operand.tmp 64], argTypes := #[51] }, type := 52, pos := "law.go:54", after := #[{ on := 21, ground := Ground.data }, { on := 20, ground := Ground.chain }, { on := 20, ground := Ground.guard }], guard := some (20, true) })) rfl (fun K hK => ?_) AllReadyH.nil
        go_simp
        refine (CA2.out _).mono ?_
        rintro e w13 ⟨rfl, hb13⟩
        have HB13 := Lib.hid (below_next HB12.out HB12.out.size hb13)
        clear hb13
        (try dsimp only)
        refine hK.out _ _ ?_ (fun hHeld2 => ?_)
        · (try dsimp only)
          exact KC.out _ HB13.out
        clear hK K hHeld
        rename _ => hHeld
        try simp only [Act.put, List.setIfInBounds_toArray, List.set_cons_zero, List.set_cons_succ]
        first
        | (refine wpAnyH_take (i := 24) (oi := ({ dst := some 67, op := Op.binOp BinOp.eql 52 (Operand.tmp 65) (Operand.tmp 66) 52, type := 4, pos := "law.go:54", after := #[{ on := 22, ground := Ground.data }, { on := 23, ground := Ground.data }, { on := 20, ground := Ground.guard }], guard := some (20, true) })) (v := ?_) rfl (by kernel_rfl) (by kernel_rfl) (by kernel_rfl) (fun _ _ _ h => h) (Or.inl ⟨by rfl, ?_⟩) hHeld ?_
           rotate_left
           · intro w hSw
             (try dsimp only at hSw)
             go_simp
             try with_reducible rfl
           try simp only [Act.put, List.setIfInBounds_toArray, List.set_cons_zero, List.set_cons_succ])
        | fail
        first
        | (refine wpAnyH_take (i := 25) (oi := ({ dst := some 68, op := Op.pick (Operand.tmp 63) (Operand.tmp 67) (Operand.const (Value.bool false)), type := 4, pos := "law.go:54", after := #[{ on := 20, ground := Ground.data }, { on := 24, ground := Ground.data }], guard := none })) (v := ?_) rfl (by kernel_rfl) (by kernel_rfl) (by kernel_rfl) (fun _ _ _ h => h) (Or.inl ⟨by rfl, ?_⟩) hHeld ?_
           rotate_left
           · intro w hSw
             (try dsimp only at hSw)
             go_simp
             try with_reducible rfl
           try simp only [Act.put, List.setIfInBounds_toArray, List.set_cons_zero, List.set_cons_succ])
        | fail
        first
        | (refine wpAnyH_take (i := 26) (oi := ({ dst := some 69, op := Op.move (Operand.tmp 68), type := 4, pos := "law.go:54", after := #[{ on := 25, ground := Ground.data }, { on := 22, ground := Ground.chain }], guard := none })) (v := ?_) rfl (by kernel_rfl) (by kernel_rfl) (by kernel_rfl) (fun _ _ _ h => h) (Or.inl ⟨by rfl, ?_⟩) hHeld ?_
           rotate_left
           · intro w hSw
             (try dsimp only at hSw)
             go_simp
             try with_reducible rfl
           try simp only [Act.put, List.setIfInBounds_toArray, List.set_cons_zero, List.set_cons_succ])
        | fail
        first
        | (refine wpAnyH_take (i := 27) (oi := ({ dst := some 70, op := Op.move (Operand.tmp 10), type := 33, pos := "law.go:54", after := #[{ on := 26, ground := Ground.guard }], guard := some (26, true) })) (v := ?_) rfl (by kernel_rfl) (by kernel_rfl) (by kernel_rfl) (fun _ _ _ h => h) (Or.inl ⟨by rfl, ?_⟩) hHeld ?_
           rotate_left
           · intro w hSw
             (try dsimp only at hSw)
             go_simp
             try with_reducible rfl
           try simp only [Act.put, List.setIfInBounds_toArray, List.set_cons_zero, List.set_cons_succ])
        | fail
        first
        | (refine wpAnyH_take (i := 28) (oi := ({ dst := some 71, op := Op.binOp BinOp.eql 33 (Operand.tmp 70) (Operand.const (Value.int IntKind.i64 0)) 33, type := 4, pos := "law.go:54", after := #[{ on := 27, ground := Ground.data }, { on := 26, ground := Ground.guard }], guard := some (26, true) })) (v := ?_) rfl (by kernel_rfl) (by kernel_rfl) (by kernel_rfl) (fun _ _ _ h => h) (Or.inl ⟨by rfl, ?_⟩) hHeld ?_
           rotate_left
           · intro w hSw
             (try dsimp only at hSw)
             go_simp
             try with_reducible rfl
           try simp only [Act.put, List.setIfInBounds_toArray, List.set_cons_zero, List.set_cons_succ])
        | fail
        first
        | (refine wpAnyH_take (i := 29) (oi := ({ dst := some 72, op := Op.move (Operand.tmp 12), type := 4, pos := "law.go:54", after := #[{ on := 26, ground := Ground.guard }], guard := some (26, true) })) (v := ?_) rfl (by kernel_rfl) (by kernel_rfl) (by kernel_rfl) (fun _ _ _ h => h) (Or.inl ⟨by rfl, ?_⟩) hHeld ?_
           rotate_left
           · intro w hSw
             (try dsimp only at hSw)
             go_simp
             try with_reducible rfl
           try simp only [Act.put, List.setIfInBounds_toArray, List.set_cons_zero, List.set_cons_succ])
        | fail
        first
        | (refine wpAnyH_take (i := 30) (oi := ({ dst := some 73, op := Op.binOp BinOp.eql 4 (Operand.tmp 71) (Operand.tmp 72) 4, type := 4, pos := "law.go:54", after := #[{ on := 28, ground := Ground.data }, { on := 29, ground := Ground.data }, { on := 26, ground := Ground.guard }], guard := some (26, true) })) (v := ?_) rfl (by kernel_rfl) (by kernel_rfl) (by kernel_rfl) (fun _ _ _ h => h) (Or.inl ⟨by rfl, ?_⟩) hHeld ?_
           rotate_left
           · intro w hSw
             (try dsimp only at hSw)
             go_simp
             try with_reducible rfl
           try simp only [Act.put, List.setIfInBounds_toArray, List.set_cons_zero, List.set_cons_succ])
        | fail
        first
        | (refine wpAnyH_take (i := 31) (oi := ({ dst := some 74, op := Op.pick (Operand.tmp 69) (Operand.tmp 73) (Operand.const (Value.bool false)), type := 4, pos := "law.go:54", after := #[{ on := 26, ground := Ground.data }, { on := 30, ground := Ground.data }], guard := none })) (v := ?_) rfl (by kernel_rfl) (by kernel_rfl) (by kernel_rfl) (fun _ _ _ h => h) (Or.inl ⟨by rfl, ?_⟩) hHeld ?_
           rotate_left
           · intro w hSw
             (try dsimp only at hSw)
             go_simp
             try with_reducible rfl
           try simp only [Act.put, List.setIfInBounds_toArray, List.set_cons_zero, List.set_cons_succ])
        | fail
        first
        | (refine wpAnyH_take (i := 32) (oi := ({ dst := some 75, op := Op.move (Operand.tmp 74), type := 4, pos := "law.go:54", after := #[{ on := 31, ground := Ground.data }, { on := 26, ground := Ground.chain }], guard := none })) (v := ?_) rfl (by kernel_rfl) (by kernel_rfl) (by kernel_rfl) (fun _ _ _ h => h) (Or.inl ⟨by rfl, ?_⟩) hHeld ?_
           rotate_left
           · intro w hSw
             (try dsimp only at hSw)
             go_simp
             try with_reducible rfl
           try simp only [Act.put, List.setIfInBounds_toArray, List.set_cons_zero, List.set_cons_succ])
        | fail
        first
        | (refine wpAnyH_take (i := 33) (oi := ({ dst := some 76, op := Op.move (Operand.tmp 12), type := 4, pos := "law.go:54", after := #[{ on := 32, ground := Ground.guard }], guard := some (32, true) })) (v := ?_) rfl (by kernel_rfl) (by kernel_rfl) (by kernel_rfl) (fun _ _ _ h => h) (Or.inl ⟨by rfl, ?_⟩) hHeld ?_
           rotate_left
           · intro w hSw
             (try dsimp only at hSw)
             go_simp
             try with_reducible rfl
           try simp only [Act.put, List.setIfInBounds_toArray, List.set_cons_zero, List.set_cons_succ])
        | fail
        first
        | (refine wpAnyH_take (i := 34) (oi := ({ dst := some 77, op := Op.move (Operand.tmp 76), type := 4, pos := "law.go:54", after := #[{ on := 33, ground := Ground.data }, { on := 32, ground := Ground.chain }, { on := 32, ground := Ground.guard }], guard := some (32, true) })) (v := ?_) rfl (by kernel_rfl) (by kernel_rfl) (by kernel_rfl) (fun _ _ _ h => h) (Or.inl ⟨by rfl, ?_⟩) hHeld ?_
           rotate_left
           · intro w hSw
             (try dsimp only at hSw)
             go_simp
             try with_reducible rfl
           try simp only [Act.put, List.setIfInBounds_toArray, List.set_cons_zero, List.set_cons_succ])
        | fail
        first
        | (refine wpAnyH_take (i := 35) (oi := ({ dst := some 78, op := Op.move (Operand.tmp 10), type := 33, pos := "law.go:54", after := #[{ on := 34, ground := Ground.guard }], guard := some (34, false) })) (v := undef) rfl (by kernel_rfl) (by kernel_rfl) (by kernel_rfl) (fun _ _ _ h => h) (Or.inr ⟨by rfl, rfl⟩) hHeld ?_
           try simp only [Act.put, List.setIfInBounds_toArray, List.set_cons_zero, List.set_cons_succ])
        | fail
        first
        | (refine wpAnyH_take (i := 36) (oi := ({ dst := some 79, op := Op.binOp BinOp.eql 33 (Operand.tmp 78) (Operand.const (Value.int IntKind.i64 3)) 33, type := 4, pos := "law.go:54", after := #[{ on := 35, ground := Ground.data }, { on := 34, ground := Ground.guard }], guard := some (34, false) })) (v := undef) rfl (by kernel_rfl) (by kernel_rfl) (by kernel_rfl) (fun _ _ _ h => h) (Or.inr ⟨by rfl, rfl⟩) hHeld ?_
           try simp only [Act.put, List.setIfInBounds_toArray, List.set_cons_zero, List.set_cons_succ])
        | fail
        first
        | (refine wpAnyH_take (i := 37) (oi := ({ dst := some 80, op := Op.pick (Operand.tmp 77) (Operand.const (Value.bool true)) (Operand.tmp 79), type := 4, pos := "law.go:54", after := #[{ on := 34, ground := Ground.data }, { on := 36, ground := Ground.data }, { on := 32, ground := Ground.guard }], guard := some (32, true) })) (v := ?_) rfl (by kernel_rfl) (by kernel_rfl) (by kernel_rfl) (fun _ _ _ h => h) (Or.inl ⟨by rfl, ?_⟩) hHeld ?_
           rotate_left
           · intro w hSw
             (try dsimp only at hSw)
             go_simp
             try with_reducible rfl
           try simp only [Act.put, List.setIfInBounds_toArray, List.set_cons_zero, List.set_cons_succ])
        | fail
        first
        | (refine wpAnyH_take (i := 38) (oi := ({ dst := some 81, op := Op.pick (Operand.tmp 75) (Operand.tmp 80) (Operand.const (Value.bool false)), type := 4, pos := "law.go:54", after := #[{ on := 32, ground := Ground.data }, { on := 37, ground := Ground.data }], guard := none })) (v := ?_) rfl (by kernel_rfl) (by kernel_rfl) (by kernel_rfl) (fun _ _ _ h => h) (Or.inl ⟨by rfl, ?_⟩) hHeld ?_
           rotate_left
           · intro w hSw
             (try dsimp only at hSw)
             go_simp
             try with_reducible rfl
           try simp only [Act.put, List.setIfInBounds_toArray, List.set_cons_zero, List.set_cons_succ])
        | fail
        first
        | (refine wpAnyH_take (i := 39) (oi := ({ dst := some 4, op := Op.assign (Operand.tmp 81), type := 4, pos := "law.go:54", after := #[{ on := 38, ground := Ground.data }, { on := 34, ground := Ground.chain }, { on := 0, ground := Ground.phase }, { on := 1, ground := Ground.phase }, { on := 2, ground := Ground.phase }, { on := 3, ground := Ground.phase }, { on := 4, ground := Ground.phase }, { on := 5, ground := Ground.phase }, { on := 6, ground := Ground.phase }, { on := 7, ground := Ground.phase }, { on := 8, ground := Ground.phase }, { on := 9, ground := Ground.phase }, { on := 10, ground := Ground.phase }, { on := 11, ground := Ground.phase }, { on := 12, ground := Ground.phase }, { on := 13, ground := Ground.phase }, { on := 14, ground := Ground.phase }, { on := 15, ground := Ground.phase }, { on := 16, ground := Ground.phase }, { on := 17, ground := Ground.phase }, { on := 18, ground := Ground.phase }, { on := 19, ground := Ground.phase }, { on := 20, ground := Ground.phase }, { on := 21, ground := Ground.phase }, { on := 22, ground := Ground.phase }, { on := 23, ground := Ground.phase }, { on := 24, ground := Ground.phase }, { on := 25, ground := Ground.phase }, { on := 26, ground := Ground.phase }, { on := 27, ground := Ground.phase }, { on := 28, ground := Ground.phase }, { on := 29, ground := Ground.phase }, { on := 30, ground := Ground.phase }, { on := 31, ground := Ground.phase }, { on := 32, ground := Ground.phase }, { on := 33, ground := Ground.phase }, { on := 34, ground := Ground.phase }, { on := 35, ground := Ground.phase }, { on := 36, ground := Ground.phase }, { on := 37, ground := Ground.phase }, { on := 38, ground := Ground.phase }], guard := none })) (v := ?_) rfl (by kernel_rfl) (by kernel_rfl) (by kernel_rfl) (fun _ _ _ h => h) (Or.inl ⟨by rfl, ?_⟩) hHeld ?_
           rotate_left
           · intro w hSw
             (try dsimp only at hSw)
             go_simp
             try with_reducible rfl
           try simp only [Act.put, List.setIfInBounds_toArray, List.set_cons_zero, List.set_cons_succ])
        | fail
        refine wpAnyH_done (by kernel_rfl) ?_ _
        go_wp2_with fail
        go_ret
        exact ⟨rfl, HBE.out _ (below_next HB10.out HB10.out.size HB13.out)⟩
      · refine wp_region_held_drew (S := (fun w' => (w'.cell? ⟨ga, 0, none⟩ = some (.bool pi) ∧ w'.cell? ⟨ga, 1, none⟩ = some (.int .u64 pn) ∧ w'.cell? ⟨ga, 2, none⟩ = some (.int .u64 ps) ∧ w'.cell? ⟨ga, 3, none⟩ = some (.string ph) ∧ w'.cell? ⟨ga, 4, none⟩ = some (.string pd)) ∧ (w'.cell? ⟨gb, 0, none⟩ = some (.bool pi) ∧ w'.cell? ⟨gb, 1, none⟩ = some (.int .u64 pn) ∧ w'.cell? ⟨gb, 2, none⟩ = some (.int .u64 ps) ∧ w'.cell? ⟨gb, 3, none⟩ = some (.string ph) ∧ w'.cell? ⟨gb, 4, none⟩ = some (.string pd)) ∧ (w'.cell? ⟨gc, 0, none⟩ = some (.bool qi) ∧ w'.cell? ⟨gc, 1, none⟩ = some (.int .u64 qn) ∧ w'.cell? ⟨gc, 2, none⟩ = some (.int .u64 qs) ∧ w'.cell? ⟨gc, 3, none⟩ = some (.string qh) ∧ w'.cell? ⟨gc, 4, none⟩ = some (.string qd)) ∧ (w'.cell? ⟨gd, 0, none⟩ = some (.bool qi) ∧ w'.cell? ⟨gd, 1, none⟩ = some (.int .u64 qn) ∧ w'.cell? ⟨gd, 2, none⟩ = some (.int .u64 qs) ∧ w'.cell? ⟨gd, 3, none⟩ = some (.string qh) ∧ w'.cell? ⟨gd, 4, none⟩ = some (.string qd)))) (by kernel_rfl) (KC.out _ HBd.out) (fun hHeld => ?_)
        refine wpAnyH_ready (rs := [0]) (by kernel_rfl) (by simp) ?_
        refine AllReadyH.cons (o := ({ dst := some 43, op := Op.call { callee := Callee.value (Operand.func 27), args := #[], argTypes := #[] }, type := 4, pos := "law.go:54", after := #[], guard := none })) rfl (fun K hK => ?_) AllReadyH.nil
        go_simp
        refine (CA.out _ HGd.out).mono ?_
        rintro e w11 ⟨rfl, hb11⟩
        have HB11 := Lib.hid (below_next HBd.out HBd.out.size hb11)
        clear hb11
        (try dsimp only)
        refine hK.out _ _ ?_ (fun hHeld2 => ?_)
        · (try dsimp only)
          exact KC.out _ HB11.out
        clear hK K hHeld
        rename _ => hHeld
        try simp only [Act.put, List.setIfInBounds_toArray, List.set_cons_zero, List.set_cons_succ]
        first
        | (refine wpAnyH_take (i := 1) (oi := ({ dst := some 44, op := Op.move (Operand.tmp 43), type := 4, pos := "law.go:54", after := #[{ on := 0, ground := Ground.data }, { on := 0, ground := Ground.chain }], guard := none })) (v := ?_) rfl (by kernel_rfl) (by kernel_rfl) (by kernel_rfl) (fun _ _ _ h => h) (Or.inl ⟨by rfl, ?_⟩) hHeld ?_
           rotate_left
           · intro w hSw
             (try dsimp only at hSw)
             go_simp
             try with_reducible rfl
           try simp only [Act.put, List.setIfInBounds_toArray, List.set_cons_zero, List.set_cons_succ])
        | fail
        first
        | (refine wpAnyH_take (i := 2) (oi := ({ dst := some 45, op := Op.load 51 (Operand.tmp 5), type := 51, pos := "law.go:54", after := #[{ on := 1, ground := Ground.guard }], guard := some (1, true) })) (v := ?_) rfl (by kernel_rfl) (by kernel_rfl) (by kernel_rfl) (fun _ _ _ h => h) (Or.inl ⟨by rfl, ?_⟩) hHeld ?_
           rotate_left
           · intro w hSw
             (try dsimp only at hSw)
             go_simp
             try with_reducible rfl
           try simp only [Act.put, List.setIfInBounds_toArray, List.set_cons_zero, List.set_cons_succ])
        | fail
        first
        | (refine wpAnyH_take (i := 4) (oi := ({ dst := some 47, op := Op.load 52 (Operand.tmp 7), type := 52, pos := "law.go:54", after := #[{ on := 1, ground := Ground.guard }], guard := some (1, true) })) (v := ?_) rfl (by kernel_rfl) (by kernel_rfl) (by kernel_rfl) (fun _ _ _ h => h) (Or.inl ⟨by rfl, ?_⟩) hHeld ?_
           rotate_left
           · intro w hSw
             (try dsimp only at hSw)
             go_simp
             try with_reducible rfl
           try simp only [Act.put, List.setIfInBounds_toArray, List.set_cons_zero, List.set_cons_succ])
        | fail
        refine wpAnyH_ready (rs := [3]) (by kernel_rfl) (by simp) ?_
        refine AllReadyH.cons (o := ({ dst := some 46, op := Op.call { callee := Callee.value (Operand.func 28), args := #[Operand.tmp 45], argTypes := #[51] }, type := 52, pos := "law.go:54", after := #[{ on := 2, ground := Ground.data }, { on := 1, ground := Ground.chain }, { on := 1, ground := Ground.guard }], guard := some (1, true) })) rfl (fun K hK => ?_) AllReadyH.nil
        go_simp
        refine (CA1.out _).mono ?_
        rintro e w12 ⟨rfl, hb12⟩
        have HB12 := Lib.hid (below_next HB11.out HB11.out.size hb12)
        clear hb12
        (try dsimp only)
        refine hK.out _ _ ?_ (fun hHeld2 => ?_)
        · (try dsimp only)
          exact KC.out _ HB12.out
        clear hK K hHeld
        rename _ => hHeld
        try simp only [Act.put, List.setIfInBounds_toArray, List.set_cons_zero, List.set_cons_succ]
        first
        | (refine wpAnyH_take (i := 5) (oi := ({ dst := some 48, op := Op.binOp BinOp.eql 52 (Operand.tmp 46) (Operand.tmp 47) 52, type := 4, pos := "law.go:54", after := #[{ on := 3, ground := Ground.data }, { on := 4, ground := Ground.data }, { on := 1, ground := Ground.guard }], guard := some (1, true) })) (v := ?_) rfl (by kernel_rfl) (by kernel_rfl) (by kernel_rfl) (fun _ _ _ h => h) (Or.inl ⟨by rfl, ?_⟩) hHeld ?_
           rotate_left
           · intro w hSw
             (try dsimp only at hSw)
             go_simp
             try with_reducible rfl
           try simp only [Act.put, List.setIfInBounds_toArray, List.set_cons_zero, List.set_cons_succ])
        | fail
        first
        | (refine wpAnyH_take (i := 6) (oi := ({ dst := some 49, op := Op.pick (Operand.tmp 44) (Operand.tmp 48) (Operand.const (Value.bool false)), type := 4, pos := "law.go:54", after := #[{ on := 1, ground := Ground.data }, { on := 5, ground := Ground.data }], guard := none })) (v := ?_) rfl (by kernel_rfl) (by kernel_rfl) (by kernel_rfl) (fun _ _ _ h => h) (Or.inl ⟨by rfl, ?_⟩) hHeld ?_
           rotate_left
           · intro w hSw
             (try dsimp only at hSw)
             go_simp
             try with_reducible rfl
           try simp only [Act.put, List.setIfInBounds_toArray, List.set_cons_zero, List.set_cons_succ])
        | fail
        first
        | (refine wpAnyH_take (i := 7) (oi := ({ dst := some 50, op := Op.move (Operand.tmp 49), type := 4, pos := "law.go:54", after := #[{ on := 6, ground := Ground.data }, { on := 3, ground := Ground.chain }], guard := none })) (v := ?_) rfl (by kernel_rfl) (by kernel_rfl) (by kernel_rfl) (fun _ _ _ h => h) (Or.inl ⟨by rfl, ?_⟩) hHeld ?_
           rotate_left
           · intro w hSw
             (try dsimp only at hSw)
             go_simp
             try with_reducible rfl
           try simp only [Act.put, List.setIfInBounds_toArray, List.set_cons_zero, List.set_cons_succ])
        | fail
        first
        | (refine wpAnyH_take (i := 8) (oi := ({ dst := some 51, op := Op.move (Operand.tmp 6), type := 33, pos := "law.go:54", after := #[{ on := 7, ground := Ground.guard }], guard := some (7, true) })) (v := ?_) rfl (by kernel_rfl) (by kernel_rfl) (by kernel_rfl) (fun _ _ _ h => h) (Or.inl ⟨by rfl, ?_⟩) hHeld ?_
           rotate_left
           · intro w hSw
             (try dsimp only at hSw)
             go_simp
             try with_reducible rfl
           try simp only [Act.put, List.setIfInBounds_toArray, List.set_cons_zero, List.set_cons_succ])
        | fail
        first
        | (refine wpAnyH_take (i := 9) (oi := ({ dst := some 52, op := Op.binOp BinOp.eql 33 (Operand.tmp 51) (Operand.const (Value.int IntKind.i64 0)) 33, type := 4, pos := "law.go:54", after := #[{ on := 8, ground := Ground.data }, { on := 7, ground := Ground.guard }], guard := some (7, true) })) (v := ?_) rfl (by kernel_rfl) (by kernel_rfl) (by kernel_rfl) (fun _ _ _ h => h) (Or.inl ⟨by rfl, ?_⟩) hHeld ?_
           rotate_left
           · intro w hSw
             (try dsimp only at hSw)
             go_simp
             try with_reducible rfl
           try simp only [Act.put, List.setIfInBounds_toArray, List.set_cons_zero, List.set_cons_succ])
        | fail
        first
        | (refine wpAnyH_take (i := 10) (oi := ({ dst := some 53, op := Op.move (Operand.tmp 8), type := 4, pos := "law.go:54", after := #[{ on := 7, ground := Ground.guard }], guard := some (7, true) })) (v := ?_) rfl (by kernel_rfl) (by kernel_rfl) (by kernel_rfl) (fun _ _ _ h => h) (Or.inl ⟨by rfl, ?_⟩) hHeld ?_
           rotate_left
           · intro w hSw
             (try dsimp only at hSw)
             go_simp
             try with_reducible rfl
           try simp only [Act.put, List.setIfInBounds_toArray, List.set_cons_zero, List.set_cons_succ])
        | fail
        first
        | (refine wpAnyH_take (i := 11) (oi := ({ dst := some 54, op := Op.binOp BinOp.eql 4 (Operand.tmp 52) (Operand.tmp 53) 4, type := 4, pos := "law.go:54", after := #[{ on := 9, ground := Ground.data }, { on := 10, ground := Ground.data }, { on := 7, ground := Ground.guard }], guard := some (7, true) })) (v := ?_) rfl (by kernel_rfl) (by kernel_rfl) (by kernel_rfl) (fun _ _ _ h => h) (Or.inl ⟨by rfl, ?_⟩) hHeld ?_
           rotate_left
           · intro w hSw
             (try dsimp only at hSw)
             go_simp
             try with_reducible rfl
           try simp only [Act.put, List.setIfInBounds_toArray, List.set_cons_zero, List.set_cons_succ])
        | fail
        first
        | (refine wpAnyH_take (i := 12) (oi := ({ dst := some 55, op := Op.pick (Operand.tmp 50) (Operand.tmp 54) (Operand.const (Value.bool false)), type := 4, pos := "law.go:54", after := #[{ on := 7, ground := Ground.data }, { on := 11, ground := Ground.data }], guard := none })) (v := ?_) rfl (by kernel_rfl) (by kernel_rfl) (by kernel_rfl) (fun _ _ _ h => h) (Or.inl ⟨by rfl, ?_⟩) hHeld ?_
           rotate_left
           · intro w hSw
             (try dsimp only at hSw)
             go_simp
             try with_reducible rfl
           try simp only [Act.put, List.setIfInBounds_toArray, List.set_cons_zero, List.set_cons_succ])
        | fail
        first
        | (refine wpAnyH_take (i := 13) (oi := ({ dst := some 56, op := Op.move (Operand.tmp 55), type := 4, pos := "law.go:54", after := #[{ on := 12, ground := Ground.data }, { on := 7, ground := Ground.chain }], guard := none })) (v := ?_) rfl (by kernel_rfl) (by kernel_rfl) (by kernel_rfl) (fun _ _ _ h => h) (Or.inl ⟨by rfl, ?_⟩) hHeld ?_
           rotate_left
           · intro w hSw
             (try dsimp only at hSw)
             go_simp
             try with_reducible rfl
           try simp only [Act.put, List.setIfInBounds_toArray, List.set_cons_zero, List.set_cons_succ])
        | fail
        first
        | (refine wpAnyH_take (i := 14) (oi := ({ dst := some 57, op := Op.move (Operand.tmp 8), type := 4, pos := "law.go:54", after := #[{ on := 13, ground := Ground.guard }], guard := some (13, true) })) (v := ?_) rfl (by kernel_rfl) (by kernel_rfl) (by kernel_rfl) (fun _ _ _ h => h) (Or.inl ⟨by rfl, ?_⟩) hHeld ?_
           rotate_left
           · intro w hSw
             (try dsimp only at hSw)
             go_simp
             try with_reducible rfl
           try simp only [Act.put, List.setIfInBounds_toArray, List.set_cons_zero, List.set_cons_succ])
        | fail
        first
        | (refine wpAnyH_take (i := 15) (oi := ({ dst := some 58, op := Op.move (Operand.tmp 57), type := 4, pos := "law.go:54", after := #[{ on := 14, ground := Ground.data }, { on := 13, ground := Ground.chain }, { on := 13, ground := Ground.guard }], guard := some (13, true) })) (v := ?_) rfl (by kernel_rfl) (by kernel_rfl) (by kernel_rfl) (fun _ _ _ h => h) (Or.inl ⟨by rfl, ?_⟩) hHeld ?_
           rotate_left
           · intro w hSw
             (try dsimp only at hSw)
             go_simp
             try with_reducible rfl
           try simp only [Act.put, List.setIfInBounds_toArray, List.set_cons_zero, List.set_cons_succ])
        | fail
        first
        | (refine wpAnyH_take (i := 16) (oi := ({ dst := some 59, op := Op.move (Operand.tmp 6), type := 33, pos := "law.go:54", after := #[{ on := 15, ground := Ground.guard }], guard := some (15, false) })) (v := ?_) rfl (by kernel_rfl) (by kernel_rfl) (by kernel_rfl) (fun _ _ _ h => h) (Or.inl ⟨by rfl, ?_⟩) hHeld ?_
           rotate_left
           · intro w hSw
             (try dsimp only at hSw)
             go_simp
             try with_reducible rfl
           try simp only [Act.put, List.setIfInBounds_toArray, List.set_cons_zero, List.set_cons_succ])
        | fail
        first
        | (refine wpAnyH_take (i := 17) (oi := ({ dst := some 60, op := Op.binOp BinOp.eql 33 (Operand.tmp 59) (Operand.const (Value.int IntKind.i64 3)) 33, type := 4, pos := "law.go:54", after := #[{ on := 16, ground := Ground.data }, { on := 15, ground := Ground.guard }], guard := some (15, false) })) (v := ?_) rfl (by kernel_rfl) (by kernel_rfl) (by kernel_rfl) (fun _ _ _ h => h) (Or.inl ⟨by rfl, ?_⟩) hHeld ?_
           rotate_left
           · intro w hSw
             (try dsimp only at hSw)
             go_simp
             try with_reducible rfl
           try simp only [Act.put, List.setIfInBounds_toArray, List.set_cons_zero, List.set_cons_succ])
        | fail
        first
        | (refine wpAnyH_take (i := 18) (oi := ({ dst := some 61, op := Op.pick (Operand.tmp 58) (Operand.const (Value.bool true)) (Operand.tmp 60), type := 4, pos := "law.go:54", after := #[{ on := 15, ground := Ground.data }, { on := 17, ground := Ground.data }, { on := 13, ground := Ground.guard }], guard := some (13, true) })) (v := ?_) rfl (by kernel_rfl) (by kernel_rfl) (by kernel_rfl) (fun _ _ _ h => h) (Or.inl ⟨by rfl, ?_⟩) hHeld ?_
           rotate_left
           · intro w hSw
             (try dsimp only at hSw)
             go_simp
             try with_reducible rfl
           try simp only [Act.put, List.setIfInBounds_toArray, List.set_cons_zero, List.set_cons_succ])
        | fail
        first
        | (refine wpAnyH_take (i := 19) (oi := ({ dst := some 62, op := Op.pick (Operand.tmp 56) (Operand.tmp 61) (Operand.const (Value.bool false)), type := 4, pos := "law.go:54", after := #[{ on := 13, ground := Ground.data }, { on := 18, ground := Ground.data }], guard := none })) (v := ?_) rfl (by kernel_rfl) (by kernel_rfl) (by kernel_rfl) (fun _ _ _ h => h) (Or.inl ⟨by rfl, ?_⟩) hHeld ?_
           rotate_left
           · intro w hSw
             (try dsimp only at hSw)
             go_simp
             try with_reducible rfl
           try simp only [Act.put, List.setIfInBounds_toArray, List.set_cons_zero, List.set_cons_succ])
        | fail
        first
        | (refine wpAnyH_take (i := 20) (oi := ({ dst := some 63, op := Op.move (Operand.tmp 62), type := 4, pos := "law.go:54", after := #[{ on := 19, ground := Ground.data }, { on := 15, ground := Ground.chain }], guard := none })) (v := ?_) rfl (by kernel_rfl) (by kernel_rfl) (by kernel_rfl) (fun _ _ _ h => h) (Or.inl ⟨by rfl, ?_⟩) hHeld ?_
           rotate_left
           · intro w hSw
             (try dsimp only at hSw)
             go_simp
             try with_reducible rfl
           try simp only [Act.put, List.setIfInBounds_toArray, List.set_cons_zero, List.set_cons_succ])
        | fail
        first
        | (refine wpAnyH_take (i := 21) (oi := ({ dst := some 64, op := Op.load 51 (Operand.tmp 9), type := 51, pos := "law.go:54", after := #[{ on := 20, ground := Ground.guard }], guard := some (20, true) })) (v := ?_) rfl (by kernel_rfl) (by kernel_rfl) (by kernel_rfl) (fun _ _ _ h => h) (Or.inl ⟨by rfl, ?_⟩) hHeld ?_
           rotate_left
           · intro w hSw
             (try dsimp only at hSw)
             go_simp
             try with_reducible rfl
           try simp only [Act.put, List.setIfInBounds_toArray, List.set_cons_zero, List.set_cons_succ])
        | fail
        first
        | (refine wpAnyH_take (i := 23) (oi := ({ dst := some 66, op := Op.load 52 (Operand.tmp 11), type := 52, pos := "law.go:54", after := #[{ on := 20, ground := Ground.guard }], guard := some (20, true) })) (v := ?_) rfl (by kernel_rfl) (by kernel_rfl) (by kernel_rfl) (fun _ _ _ h => h) (Or.inl ⟨by rfl, ?_⟩) hHeld ?_
           rotate_left
           · intro w hSw
             (try dsimp only at hSw)
             go_simp
             try with_reducible rfl
           try simp only [Act.put, List.setIfInBounds_toArray, List.set_cons_zero, List.set_cons_succ])
        | fail
        refine wpAnyH_ready (rs := [22]) (by kernel_rfl) (by simp) ?_
        refine AllReadyH.cons (o := ({ dst := some 65, op := Op.call { callee := Callee.value (Operand.func 28), args := #[Operand.tmp 64], argTypes := #[51] }, type := 52, pos := "law.go:54", after := #[{ on := 21, ground := Ground.data }, { on := 20, ground := Ground.chain }, { on := 20, ground := Ground.guard }], guard := some (20, true) })) rfl (fun K hK => ?_) AllReadyH.nil
        go_simp
        refine (CA2.out _).mono ?_
        rintro e w13 ⟨rfl, hb13⟩
        have HB13 := Lib.hid (below_next HB12.out HB12.out.size hb13)
        clear hb13
        (try dsimp only)
        refine hK.out _ _ ?_ (fun hHeld2 => ?_)
        · (try dsimp only)
          exact KC.out _ HB13.out
        clear hK K hHeld
        rename _ => hHeld
        try simp only [Act.put, List.setIfInBounds_toArray, List.set_cons_zero, List.set_cons_succ]
        first
        | (refine wpAnyH_take (i := 24) (oi := ({ dst := some 67, op := Op.binOp BinOp.eql 52 (Operand.tmp 65) (Operand.tmp 66) 52, type := 4, pos := "law.go:54", after := #[{ on := 22, ground := Ground.data }, { on := 23, ground := Ground.data }, { on := 20, ground := Ground.guard }], guard := some (20, true) })) (v := ?_) rfl (by kernel_rfl) (by kernel_rfl) (by kernel_rfl) (fun _ _ _ h => h) (Or.inl ⟨by rfl, ?_⟩) hHeld ?_
           rotate_left
           · intro w hSw
             (try dsimp only at hSw)
             go_simp
             try with_reducible rfl
           try simp only [Act.put, List.setIfInBounds_toArray, List.set_cons_zero, List.set_cons_succ])
        | fail
        first
        | (refine wpAnyH_take (i := 25) (oi := ({ dst := some 68, op := Op.pick (Operand.tmp 63) (Operand.tmp 67) (Operand.const (Value.bool false)), type := 4, pos := "law.go:54", after := #[{ on := 20, ground := Ground.data }, { on := 24, ground := Ground.data }], guard := none })) (v := ?_) rfl (by kernel_rfl) (by kernel_rfl) (by kernel_rfl) (fun _ _ _ h => h) (Or.inl ⟨by rfl, ?_⟩) hHeld ?_
           rotate_left
           · intro w hSw
             (try dsimp only at hSw)
             go_simp
             try with_reducible rfl
           try simp only [Act.put, List.setIfInBounds_toArray, List.set_cons_zero, List.set_cons_succ])
        | fail
        first
        | (refine wpAnyH_take (i := 26) (oi := ({ dst := some 69, op := Op.move (Operand.tmp 68), type := 4, pos := "law.go:54", after := #[{ on := 25, ground := Ground.data }, { on := 22, ground := Ground.chain }], guard := none })) (v := ?_) rfl (by kernel_rfl) (by kernel_rfl) (by kernel_rfl) (fun _ _ _ h => h) (Or.inl ⟨by rfl, ?_⟩) hHeld ?_
           rotate_left
           · intro w hSw
             (try dsimp only at hSw)
             go_simp
             try with_reducible rfl
           try simp only [Act.put, List.setIfInBounds_toArray, List.set_cons_zero, List.set_cons_succ])
        | fail
        first
        | (refine wpAnyH_take (i := 27) (oi := ({ dst := some 70, op := Op.move (Operand.tmp 10), type := 33, pos := "law.go:54", after := #[{ on := 26, ground := Ground.guard }], guard := some (26, true) })) (v := ?_) rfl (by kernel_rfl) (by kernel_rfl) (by kernel_rfl) (fun _ _ _ h => h) (Or.inl ⟨by rfl, ?_⟩) hHeld ?_
           rotate_left
           · intro w hSw
             (try dsimp only at hSw)
             go_simp
             try with_reducible rfl
           try simp only [Act.put, List.setIfInBounds_toArray, List.set_cons_zero, List.set_cons_succ])
        | fail
        first
        | (refine wpAnyH_take (i := 28) (oi := ({ dst := some 71, op := Op.binOp BinOp.eql 33 (Operand.tmp 70) (Operand.const (Value.int IntKind.i64 0)) 33, type := 4, pos := "law.go:54", after := #[{ on := 27, ground := Ground.data }, { on := 26, ground := Ground.guard }], guard := some (26, true) })) (v := ?_) rfl (by kernel_rfl) (by kernel_rfl) (by kernel_rfl) (fun _ _ _ h => h) (Or.inl ⟨by rfl, ?_⟩) hHeld ?_
           rotate_left
           · intro w hSw
             (try dsimp only at hSw)
             go_simp
             try with_reducible rfl
           try simp only [Act.put, List.setIfInBounds_toArray, List.set_cons_zero, List.set_cons_succ])
        | fail
        first
        | (refine wpAnyH_take (i := 29) (oi := ({ dst := some 72, op := Op.move (Operand.tmp 12), type := 4, pos := "law.go:54", after := #[{ on := 26, ground := Ground.guard }], guard := some (26, true) })) (v := ?_) rfl (by kernel_rfl) (by kernel_rfl) (by kernel_rfl) (fun _ _ _ h => h) (Or.inl ⟨by rfl, ?_⟩) hHeld ?_
           rotate_left
           · intro w hSw
             (try dsimp only at hSw)
             go_simp
             try with_reducible rfl
           try simp only [Act.put, List.setIfInBounds_toArray, List.set_cons_zero, List.set_cons_succ])
        | fail
        first
        | (refine wpAnyH_take (i := 30) (oi := ({ dst := some 73, op := Op.binOp BinOp.eql 4 (Operand.tmp 71) (Operand.tmp 72) 4, type := 4, pos := "law.go:54", after := #[{ on := 28, ground := Ground.data }, { on := 29, ground := Ground.data }, { on := 26, ground := Ground.guard }], guard := some (26, true) })) (v := ?_) rfl (by kernel_rfl) (by kernel_rfl) (by kernel_rfl) (fun _ _ _ h => h) (Or.inl ⟨by rfl, ?_⟩) hHeld ?_
           rotate_left
           · intro w hSw
             (try dsimp only at hSw)
             go_simp
             try with_reducible rfl
           try simp only [Act.put, List.setIfInBounds_toArray, List.set_cons_zero, List.set_cons_succ])
        | fail
        first
        | (refine wpAnyH_take (i := 31) (oi := ({ dst := some 74, op := Op.pick (Operand.tmp 69) (Operand.tmp 73) (Operand.const (Value.bool false)), type := 4, pos := "law.go:54", after := #[{ on := 26, ground := Ground.data }, { on := 30, ground := Ground.data }], guard := none })) (v := ?_) rfl (by kernel_rfl) (by kernel_rfl) (by kernel_rfl) (fun _ _ _ h => h) (Or.inl ⟨by rfl, ?_⟩) hHeld ?_
           rotate_left
           · intro w hSw
             (try dsimp only at hSw)
             go_simp
             try with_reducible rfl
           try simp only [Act.put, List.setIfInBounds_toArray, List.set_cons_zero, List.set_cons_succ])
        | fail
        first
        | (refine wpAnyH_take (i := 32) (oi := ({ dst := some 75, op := Op.move (Operand.tmp 74), type := 4, pos := "law.go:54", after := #[{ on := 31, ground := Ground.data }, { on := 26, ground := Ground.chain }], guard := none })) (v := ?_) rfl (by kernel_rfl) (by kernel_rfl) (by kernel_rfl) (fun _ _ _ h => h) (Or.inl ⟨by rfl, ?_⟩) hHeld ?_
           rotate_left
           · intro w hSw
             (try dsimp only at hSw)
             go_simp
             try with_reducible rfl
           try simp only [Act.put, List.setIfInBounds_toArray, List.set_cons_zero, List.set_cons_succ])
        | fail
        first
        | (refine wpAnyH_take (i := 33) (oi := ({ dst := some 76, op := Op.move (Operand.tmp 12), type := 4, pos := "law.go:54", after := #[{ on := 32, ground := Ground.guard }], guard := some (32, true) })) (v := ?_) rfl (by kernel_rfl) (by kernel_rfl) (by kernel_rfl) (fun _ _ _ h => h) (Or.inl ⟨by rfl, ?_⟩) hHeld ?_
           rotate_left
           · intro w hSw
             (try dsimp only at hSw)
             go_simp
             try with_reducible rfl
           try simp only [Act.put, List.setIfInBounds_toArray, List.set_cons_zero, List.set_cons_succ])
        | fail
        first
        | (refine wpAnyH_take (i := 34) (oi := ({ dst := some 77, op := Op.move (Operand.tmp 76), type := 4, pos := "law.go:54", after := #[{ on := 33, ground := Ground.data }, { on := 32, ground := Ground.chain }, { on := 32, ground := Ground.guard }], guard := some (32, true) })) (v := ?_) rfl (by kernel_rfl) (by kernel_rfl) (by kernel_rfl) (fun _ _ _ h => h) (Or.inl ⟨by rfl, ?_⟩) hHeld ?_
           rotate_left
           · intro w hSw
             (try dsimp only at hSw)
             go_simp
             try with_reducible rfl
           try simp only [Act.put, List.setIfInBounds_toArray, List.set_cons_zero, List.set_cons_succ])
        | fail
        first
        | (refine wpAnyH_take (i := 35) (oi := ({ dst := some 78, op := Op.move (Operand.tmp 10), type := 33, pos := "law.go:54", after := #[{ on := 34, ground := Ground.guard }], guard := some (34, false) })) (v := ?_) rfl (by kernel_rfl) (by kernel_rfl) (by kernel_rfl) (fun _ _ _ h => h) (Or.inl ⟨by rfl, ?_⟩) hHeld ?_
           rotate_left
           · intro w hSw
             (try dsimp only at hSw)
             go_simp
             try with_reducible rfl
           try simp only [Act.put, List.setIfInBounds_toArray, List.set_cons_zero, List.set_cons_succ])
        | fail
        first
        | (refine wpAnyH_take (i := 36) (oi := ({ dst := some 79, op := Op.binOp BinOp.eql 33 (Operand.tmp 78) (Operand.const (Value.int IntKind.i64 3)) 33, type := 4, pos := "law.go:54", after := #[{ on := 35, ground := Ground.data }, { on := 34, ground := Ground.guard }], guard := some (34, false) })) (v := ?_) rfl (by kernel_rfl) (by kernel_rfl) (by kernel_rfl) (fun _ _ _ h => h) (Or.inl ⟨by rfl, ?_⟩) hHeld ?_
           rotate_left
           · intro w hSw
             (try dsimp only at hSw)
             go_simp
             try with_reducible rfl
           try simp only [Act.put, List.setIfInBounds_toArray, List.set_cons_zero, List.set_cons_succ])
        | fail
        first
        | (refine wpAnyH_take (i := 37) (oi := ({ dst := some 80, op := Op.pick (Operand.tmp 77) (Operand.const (Value.bool true)) (Operand.tmp 79), type := 4, pos := "law.go:54", after := #[{ on := 34, ground := Ground.data }, { on := 36, ground := Ground.data }, { on := 32, ground := Ground.guard }], guard := some (32, true) })) (v := ?_) rfl (by kernel_rfl) (by kernel_rfl) (by kernel_rfl) (fun _ _ _ h => h) (Or.inl ⟨by rfl, ?_⟩) hHeld ?_
           rotate_left
           · intro w hSw
             (try dsimp only at hSw)
             go_simp
             try with_reducible rfl
           try simp only [Act.put, List.setIfInBounds_toArray, List.set_cons_zero, List.set_cons_succ])
        | fail
        first
        | (refine wpAnyH_take (i := 38) (oi := ({ dst := some 81, op := Op.pick (Operand.tmp 75) (Operand.tmp 80) (Operand.const (Value.bool false)), type := 4, pos := "law.go:54", after := #[{ on := 32, ground := Ground.data }, { on := 37, ground := Ground.data }], guard := none })) (v := ?_) rfl (by kernel_rfl) (by kernel_rfl) (by kernel_rfl) (fun _ _ _ h => h) (Or.inl ⟨by rfl, ?_⟩) hHeld ?_
           rotate_left
           · intro w hSw
             (try dsimp only at hSw)
             go_simp
             try with_reducible rfl
           try simp only [Act.put, List.setIfInBounds_toArray, List.set_cons_zero, List.set_cons_succ])
        | fail
        first
        | (refine wpAnyH_take (i := 39) (oi := ({ dst := some 4, op := Op.assign (Operand.tmp 81), type := 4, pos := "law.go:54", after := #[{ on := 38, ground := Ground.data }, { on := 34, ground := Ground.chain }, { on := 0, ground := Ground.phase }, { on := 1, ground := Ground.phase }, { on := 2, ground := Ground.phase }, { on := 3, ground := Ground.phase }, { on := 4, ground := Ground.phase }, { on := 5, ground := Ground.phase }, { on := 6, ground := Ground.phase }, { on := 7, ground := Ground.phase }, { on := 8, ground := Ground.phase }, { on := 9, ground := Ground.phase }, { on := 10, ground := Ground.phase }, { on := 11, ground := Ground.phase }, { on := 12, ground := Ground.phase }, { on := 13, ground := Ground.phase }, { on := 14, ground := Ground.phase }, { on := 15, ground := Ground.phase }, { on := 16, ground := Ground.phase }, { on := 17, ground := Ground.phase }, { on := 18, ground := Ground.phase }, { on := 19, ground := Ground.phase }, { on := 20, ground := Ground.phase }, { on := 21, ground := Ground.phase }, { on := 22, ground := Ground.phase }, { on := 23, ground := Ground.phase }, { on := 24, ground := Ground.phase }, { on := 25, ground := Ground.phase }, { on := 26, ground := Ground.phase }, { on := 27, ground := Ground.phase }, { on := 28, ground := Ground.phase }, { on := 29, ground := Ground.phase }, { on := 30, ground := Ground.phase }, { on := 31, ground := Ground.phase }, { on := 32, ground := Ground.phase }, { on := 33, ground := Ground.phase }, { on := 34, ground := Ground.phase }, { on := 35, ground := Ground.phase }, { on := 36, ground := Ground.phase }, { on := 37, ground := Ground.phase }, { on := 38, ground := Ground.phase }], guard := none })) (v := ?_) rfl (by kernel_rfl) (by kernel_rfl) (by kernel_rfl) (fun _ _ _ h => h) (Or.inl ⟨by rfl, ?_⟩) hHeld ?_
           rotate_left
           · intro w hSw
             (try dsimp only at hSw)
             go_simp
             try with_reducible rfl
           try simp only [Act.put, List.setIfInBounds_toArray, List.set_cons_zero, List.set_cons_succ])
        | fail
        refine wpAnyH_done (by kernel_rfl) ?_ _
        go_wp2_with fail
        go_ret
        exact ⟨rfl, HBE.out _ (below_next HB10.out HB10.out.size HB13.out)⟩
end Go.Proofs.YtoieadbifhealaaDoor.EidReads
