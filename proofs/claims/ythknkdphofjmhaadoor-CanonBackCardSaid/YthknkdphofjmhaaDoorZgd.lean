/- Texts of my own, laid together: PrimOpn, PrimO1, PrimO2, PrimOpen. -/
import Derived.Test.YthknkdphofjmhaaDoorZgc
/- Opening: the contract of Open. -/
namespace Go.Proofs.YthknkdphofjmhaaDoor.Prim
open Go.RowKit Wd Cb Eid EncB CbCopy CbList CbRight CbWrite CbLays CbSame

theorem reps_take {w : World} {lo hi : Nat} : ∀ {l : List Itm} {vs : List Value} (k : Nat), Reps w lo hi l vs → Reps w lo hi (l.take k) (vs.take (k * 4))
  | l, vs, 0, h => by
    simp only [Nat.zero_mul, List.take_zero]
    exact Reps.none_
  | [], vs, k + 1, h => by
    unfold Reps at h
    subst h
    simp only [List.take_nil]
    exact Reps.none_
  | x :: l, vs, k + 1, h => by
    unfold Reps at h
    obtain ⟨c, r, rfl, h1, h2⟩ := h
    have hl := h1.length
    have e : (c ++ r).take ((k + 1) * 4) = c ++ r.take (k * 4) := by
      rw [List.take_append, List.take_of_length_le (by omega), show (k + 1) * 4 - c.length = k * 4 by omega]
    rw [e]
    show Reps w lo hi (x :: l.take k) _
    unfold Reps
    exact ⟨c, _, rfl, h1, reps_take k h2⟩
theorem items_take {w : World} {lo hi : Nat} {l : List Itm} {A : Option Addr} (h : ItemsV w lo hi l A) (k : Nat) : ItemsV w lo hi (l.take k) A := by
  obtain ⟨vs, hs, hr⟩ := h
  refine ⟨vs.take (k * 4), ?_, reps_take k hr⟩
  rcases hs with rfl | ⟨b, o, e, h1, h2, hc⟩
  · exact .inl (by simp)
  · refine .inr ⟨b, o, e, h1, h2, fun j hj => ?_⟩
    rw [List.length_take] at hj
    rw [hc j (by omega), List.getElem?_take, if_pos (by omega)]
theorem sealI_list {l : List Itm} {a : Int} (h : sealE l a = 0) : sealI l a = lst (sealI l a).sub := by
  unfold sealI
  rw [if_pos h]
  unfold sealed
  split <;> rfl
theorem sealI_len {l : List Itm} {a : Int} (h : sealE l a = 0) : (sealI l a).sub.length ≤ l.length + 1 ∧ (enc (sealI l a)).length ≤ (encs l).length + 30 ∧ deep (sealI l a) ≤ 2 + deeps l ∧ l.length ≤ (sealI l a).sub.length := by
  unfold sealI
  rw [if_pos h]
  have hr := typAt_range l a
  obtain ⟨_, h2, _⟩ := sealE_zero h
  generalize hq : (typAt l a).toNat = q
  have hq2 : q ≤ 2 := by omega
  unfold sealed
  split
  · have h3 := enc_lst_len l
    have h4 : (enc (lst l)).length ≤ 9 + (encs l).length := h3
    have h5 : deep (lst l) = 1 + deeps l := rfl
    exact ⟨by show l.length ≤ _; omega, by omega, by omega, by show l.length ≤ l.length; omega⟩
  · have h3 := enc_lst_len (l ++ [.mk 2 0 (sumB q (enc (blank l q))) []])
    have h4 : (enc (withB l (sumB q (enc (blank l q))))).length ≤ 9 + (encs (l ++ [.mk 2 0 (sumB q (enc (blank l q))) []])).length := h3
    have h5 := encs_with_len l (sumB q (enc (blank l q)))
    have h6 := sumB_length q (enc (blank l q))
    have h7 : deep (withB l (sumB q (enc (blank l q)))) = 1 + deeps (l ++ [.mk 2 0 (sumB q (enc (blank l q))) []]) := rfl
    have h8 : deeps (l ++ [Itm.mk 2 0 (sumB q (enc (blank l q))) []]) = max (deeps l) 1 := by rw [deeps_append]; rfl
    exact ⟨by show (l ++ [_]).length ≤ _; simp, by omega, by omega, by show _ ≤ (l ++ [_]).length; simp⟩
theorem openE_go {x : Itm} {k q : Nat} (hr : Cb.right x = true) (hk : k < x.sub.length) (ht : typ x.sub[k] = q) (hl : lastOk x q = true) : openE x k = (if same (sealI (x.sub.take (cutN x q)) k) x then 0 else 10) ∧ openL x k = (if same (sealI (x.sub.take (cutN x q)) k) x then x.sub.take (cutN x q) else []) := by
  have e : openE x k = (if same (sealI (x.sub.take (cutN x q)) k) x then 0 else 10) := by
    unfold openE
    rw [typAt_in x.sub k hk, ht, Int.toNat_natCast, hl, hr]
    simp
  refine ⟨e, ?_⟩
  unfold openL
  rw [e, typAt_in x.sub k hk, ht, Int.toNat_natCast]
  cases same (sealI (x.sub.take (cutN x q)) k) x
  · rfl
  · rfl
/-- What comes of opening. -/
def OpenO (w w' : World) (x : Itm) (a : Int) (e : Ending) : Prop := ∃ A, e = .returned (.tuple #[.slice A (openL x a).length (openL x a).length, .int .i64 (openE x a)]) ∧ Hid (ItemsV w' w.heap.size w'.heap.size (openL x a) A)
theorem OpenO.err {w w' : World} {x : Itm} {a n : Int} (h : openE x a = n) (h0 : n ≠ 0) : OpenO w w' x a (.returned (.tuple #[.slice none 0 0, .int .i64 n])) := by
  have hl : openL x a = [] := by unfold openL; rw [if_neg (by omega)]
  refine ⟨none, ?_, Lib.hid (by rw [hl]; exact ItemsV.nil)⟩
  rw [hl, h]
  rfl
theorem OpenO.yes {w w' : World} {x : Itm} {a : Int} {A : Option Addr} {l : List Itm} {n : Nat} (h : openE x a = 0) (hl : openL x a = l) (hn : l.length = n) (hi : ItemsV w' w.heap.size w'.heap.size l A) : OpenO w w' x a (.returned (.tuple #[.slice A n n, .int .i64 0])) := by
  subst hl
  subst hn
  exact ⟨A, by rw [h], Lib.hid hi⟩
theorem last_ok {l : List Itm} {m q : Nat} (hm : l.length = m + 1) (h2 : (l[m]).kind = 2) (h3 : (l[m]).bs.length = 2 * q) : lastOk (lst l) q = true := by
  have e : l.getD (l.length - 1) (iN 0) = l[m] := by simp [List.getD, hm]
  unfold lastOk
  show (q == 0 || ((l.getD (l.length - 1) (iN 0)).kind == 2 && decide ((l.getD (l.length - 1) (iN 0)).bs.length = 2 * q))) = true
  rw [e, h2, h3]
  simp

set_option maxRecDepth 100000 in
set_option maxHeartbeats 8000000 in
theorem open_yes0 (l : List Itm) (A1 A2 : Option Addr) (c1 c2 k m : Nat) (w : World) (hm : l.length = m + 1) (h0 : c1 ≤ maxLen) (hi : ItemsV w 0 w.heap.size l A2) (hc : m + 1 ≤ c2) (hc2 : c2 ≤ maxLen) (hE : (encs l).length ≤ 900000000) (hd : deeps l ≤ 50000)
    (hT : Tabs w) (hS : Sz w) (hr : Cb.right (lst l) = true) (hk : k < l.length) (ht : typ l[k] = (0 : Nat)) :
    Calls Tryd.prog 11 #[.agg #[.int .i64 4, .int .u64 0, .slice A1 0 c1, .slice A2 (m + 1) c2], .int .i64 k] w fun e w' => OpenO w w' (lst l) k e ∧ Below w.heap.size w w' := by
  have hv : ItemV w 0 w.heap.size (lst l) (.agg #[.int .i64 4, .int .u64 0, .slice A1 0 c1, .slice A2 (m + 1) c2]) := by
    have h := ItemV.mk (k := 4) (n := 0) (b := []) (A := A1) (c := c1) ⟨by omega, by omega⟩ ⟨by omega, by omega⟩ (fun q hq => by simp at hq) (Nat.zero_le _) h0 .nil (c' := c2) (by omega) hc2 hi
    rw [hm] at h
    exact h
  have hlen : m + 1 ≤ 900000000 := by have h1 := length_le_sizes l; have h2 := sizes_enc l; omega
  have hse := sizes_enc l
  have hsk := size_at l k hk
  have hdk := deep_at l k hk
  have hcut : cutN (lst l) 0 = (m + 1) := by
    unfold cutN
    show (if 0 = 0 then l.length else l.length - 1) = _
    simp [hm]
  have hOE := openE_go (x := lst l) (k := k) (q := 0) hr hk ht (rfl)
  rw [hcut] at hOE
  rw [show (lst l).sub.take (m + 1) = l.take (m + 1) from rfl] at hOE
  have HB0 := Lib.hid ((Below.refl w.heap.size w).alloc (Nat.le_refl _) (.cells #[.int .i64 4, .int .u64 0, .slice A1 0 c1, .slice A2 (m + 1) c2] 26))
  have HK0 := Lib.hid (Blk.new w 26 #[.int .i64 4, .int .u64 0, .slice A1 0 c1, .slice A2 (m + 1) c2])
  have HV := Lib.hid (fun (W : World) (h : Below w.heap.size w W) => (hv.below h).more (Nat.le_refl _) h.size)
  have HI := Lib.hid (fun (W : World) (h : Below w.heap.size w W) => (hi.below h).more (lo' := 0) (hi' := W.heap.size) (Nat.le_refl _) h.size)
  have HTW := Lib.hid (fun (W : World) (h : Below w.heap.size w W) => And.intro (hT.below h (Nat.le_refl _)) (hS.below h (Nat.le_refl _)))
  have CR := Lib.hid (right_any (lst l) _ _ _ (HV.out _ HB0.out) (Nat.le_refl _) (HTW.out _ HB0.out).1)
  rw [hr] at CR
  have CS := Lib.hid (fun (W : World) (h : Below w.heap.size w W) => show Calls Tryd.prog 30 #[.slice A2 (m + 1) c2, .int .i64 k] W (fun e w' => e = .returned (.tuple #[.int .i64 0, .bool true]) ∧ Below W.heap.size W w') from by
    have := sumSize_any l A2 W.heap.size c2 k W (HI.out W h) (Nat.le_refl _) hk (by omega) hc2 (by omega) (by omega) (HTW.out W h).2
    rw [ht, hm] at this
    exact this)
  have htl : (l.take (m + 1)).length = (m + 1) := by rw [List.length_take]; omega
  have hte := encs_take_le l (m + 1)
  have htd := deeps_take_le l (m + 1)
  have CSe := Lib.hid (fun (W : World) (h : Below w.heap.size w W) => show Calls Tryd.prog 8 #[.slice A2 (m + 1) c2, .int .i64 k] W (fun e w' => ∃ v, e = .returned (.tuple #[v, .int .i64 (sealE (l.take (m + 1)) k)]) ∧ Hid (SealO W w' (l.take (m + 1)) k v) ∧ Below W.heap.size W w') from by
    have := seal_any (l.take (m + 1)) A2 W.heap.size c2 k W (items_take (HI.out W h) _) (Nat.le_refl _) (by omega) hc2 (by omega) (by omega) (HTW.out W h).1 (HTW.out W h).2
    rw [htl] at this
    exact this)
  have CSa := Lib.hid (fun (W : World) (y : Itm) (u : Value) (h : Below w.heap.size w W) (hu : ItemV W 0 W.heap.size y u) (hys : (enc y).length ≤ 1000000000) (hyd : deep y ≤ 60000) => sameTop_any y (lst l) u _ W.heap.size W hu (HV.out W h) (Nat.le_refl _) (by have := size_enc y; omega) (by omega))
  have HSL := Lib.hid (fun (h : sealE (l.take (m + 1)) k = 0) => sealI_len h)
  have HSI := Lib.hid (fun (h : sealE (l.take (m + 1)) k = 0) => sealI_list h)
  have HSN : Hid (same (iN 0) (lst l) = false) := Lib.hid (by
    cases h : same (iN 0) (lst l)
    · rfl
    · have := (same_iff _ _).1 h
      simp at this)
  have j0 : (0 : Int) ≤ (k : Int) := by omega
  have j1 : (k : Int) < (m : Int) + 1 := by omega
  have d0 : decide ((k : Int) < 0) = false := decide_eq_false (by omega)
  have d1 : decide ((m : Int) + 1 ≤ (k : Int)) = false := decide_eq_false (by omega)
  have d2 : decide (m + 1 ≤ k) = false := decide_eq_false (by omega)
  have d3 : ¬ c2 = 0 := by omega
  have hc2' := hc2
  unfold maxLen at hc2'
  have HOE := Lib.hid hOE
  have HLE := Lib.hid (And.intro hte (And.intro htd (And.intro hE hd)))
  have HTL := Lib.hid htl
  have HM := Lib.hid hm
  clear hv hT hS hE hd hse hsk hdk hr hOE hcut hi HV HI HTW hte htd htl ht
  go_enter Tryd.func11, Tryd.ntmps11
  go_wp2_with fail
  refine CR.out.mono ?_
  rintro e w1 ⟨rfl, hb1⟩
  have HB1 := Lib.hid (below_next HB0.out (by simp) hb1)
  have HK1 := Lib.hid (HK0.out.next hb1)
  have hz1 : w.heap.size < w1.heap.size := HK1.out.lt
  obtain ⟨⟨x0, x1, x2, x3⟩, y0, y1, y2, y3⟩ := cells_item HK1.out
  clear hb1 CR HK0 HB0
  go_wp2_with fail
  refine (CS.out _ HB1.out).mono ?_
  rintro e w2 ⟨rfl, hb2⟩
  have HB2 := Lib.hid (below_next HB1.out HB1.out.size hb2)
  have HK2 := Lib.hid (HK1.out.next hb2)
  have hz2 : w.heap.size < w2.heap.size := HK2.out.lt
  clear x0 x1 x2 x3 y0 y1 y2 y3 hb2 CS HK1 HB1
  obtain ⟨⟨x0, x1, x2, x3⟩, y0, y1, y2, y3⟩ := cells_item HK2.out
  have HB3 := HB2
  have HK3 := HK2
  go_wp2_with fail
  refine (CSe.out _ HB3.out).mono ?_
  rintro e w4 ⟨v4, rfl, HO, hb4⟩
  have HB4 := Lib.hid (below_next HB3.out HB3.out.size hb4)
  have HK4 := Lib.hid (HK3.out.next hb4)
  have hz4 : w.heap.size < w4.heap.size := HK4.out.lt
  have hw34 : w2.heap.size ≤ w4.heap.size := hb4.size
  have hww3 : w.heap.size ≤ w2.heap.size := HB3.out.size
  clear x0 x1 x2 x3 y0 y1 y2 y3 hb4 CSe HK3 HB3 HB2 HK2
  obtain ⟨⟨x0, x1, x2, x3⟩, y0, y1, y2, y3⟩ := cells_item HK4.out
  by_cases hse0 : sealE (l.take (m + 1)) k = 0
  · obtain ⟨g, rfl, hg1, hg2⟩ := HO.out.1 hse0
    rw [hse0]
    have hSL := HSL.out hse0
    have hSI := HSI.out hse0
    have hle := HLE.out
    have htl := HTL.out
    have hlm : (sealI (l.take (m + 1)) k).sub.length ≤ maxLen := by have := hSL.1; unfold maxLen; omega
    have HI4 := Lib.hid (Laid.item (w := w2) ⟨g, rfl, hg1, hg2⟩ hSI hlm)
    have HR4 := Lib.hid hg2
    have hng : (m + 1) ≤ (sealI (l.take (m + 1)) k).sub.length := by have := hSL.2.2.2; omega
    have HCS := Lib.hid (fun (W : World) (h : Below w4.heap.size w4 W) => CSa.out W (sealI (l.take (m + 1)) k) _ (below_next HB4.out HB4.out.size h) ((HI4.out.below h).more (Nat.zero_le _) h.size) (by have := hSL.2.1; omega) (by have := hSL.2.2.1; omega))
    have HTK := Lib.hid (fun (W : World) (h : Below w4.heap.size w4 W) => items_take ((hg2.below h hg2.lt (Nat.le_refl _)).items (L := w.heap.size) (H := W.heap.size) (by omega) (Nat.lt_of_lt_of_le hg2.lt h.size) (by omega) h.size) (m + 1))
    have HCC := Lib.hid (fun (W : World) => clip_items (some ⟨g, 0, none⟩) (m + 1) (sealI (l.take (m + 1)) k).sub.length W hng hlm)
    generalize hSN : (sealI (l.take (m + 1)) k).sub.length = sn at *
    have hsn0 : ¬ sn = 0 := by have h1 := hSL.2.2.2; have h2 := (sealE_zero hse0).1.2; omega
    have hsnm := hlm
    unfold maxLen at hsnm
    have HSN2 := Lib.hid hSN
    clear hSN hSL hSI hle htl HSL HSI HLE HO hg2 HI4
    have HB5 := Lib.hid ((Below.refl w4.heap.size w4).alloc (Nat.le_refl _) (.cells #[.int .i64 4, .int .u64 0, .slice none 0 0, .slice (some ⟨g, 0, none⟩) sn sn] 26))
    have HKs5 := Lib.hid (Blk.new w4 26 #[.int .i64 4, .int .u64 0, .slice none 0 0, .slice (some ⟨g, 0, none⟩) sn sn])
    have HC5 := Lib.hid (HCS.out _ HB5.out)
    cases hsm : same (sealI (l.take (m + 1)) k) (lst l)
    · rw [hsm] at HC5
      have HOF := Lib.hid HOE.out.1
      rw [hsm] at HOF
      clear hsm HCS HTK HCC HOE HR4
      go_wp2_with fail
      refine HC5.out.mono ?_
      rintro e w6 ⟨rfl, hb6⟩
      have HB6 := Lib.hid (below_next HB4.out HB4.out.size (below_next HB5.out HB5.out.size hb6))
      clear hb6 HC5 HB4 HB5 HK4 HKs5 x0 x1 x2 x3 y0 y1 y2 y3
      go_wp2_with fail
      go_ret2
      exact ⟨OpenO.err HOF.out (by decide), HB6.out⟩
    · rw [hsm] at HC5
      have HOF := Lib.hid HOE.out
      rw [hsm] at HOF
      have HEQ := Lib.hid ((same_iff _ _).1 hsm)
      clear hsm HCS HOE
      go_wp2_with fail
      refine HC5.out.mono ?_
      rintro e w6 ⟨rfl, hb6⟩
      have HB6' := Lib.hid (below_next HB5.out HB5.out.size hb6)
      have HB6 := Lib.hid (below_next HB4.out HB4.out.size HB6'.out)
      obtain ⟨⟨z0, z1, z2, z3⟩, u0, u1, u2, u3⟩ := cells_item (HKs5.out.next hb6)
      have HT6 := Lib.hid (HTK.out w6 HB6'.out)
      clear hb6 HC5 HB4 HB5 HB6' HK4 HKs5 HTK x0 x1 x2 x3 y0 y1 y2 y3
      go_wp2_with fail
      refine (HCC.out _).mono ?_
      rintro e w7 ⟨rfl, rfl⟩
      go_wp2_with fail
      go_ret2
      refine ⟨OpenO.yes (l := l.take (m + 1)) HOF.out.1 HOF.out.2 HTL.out ?_, HB6.out⟩
      have h := HT6.out
      rw [HEQ.out] at h
      exact h
  · obtain rfl := HO.out.2 hse0
    have HB5 := Lib.hid ((Below.refl w4.heap.size w4).alloc (Nat.le_refl _) (.cells #[.int .i64 0, .int .u64 0, .slice none 0 0, .slice none 0 0] 26))
    have HC5 := Lib.hid (CSa.out _ (iN 0) _ (below_next HB4.out HB4.out.size HB5.out) (item_num _ 0 _ 0 ⟨by omega, by omega⟩) (by decide) (by decide))
    rw [HSN.out] at HC5
    have HOF : Hid (openE (lst l) k = 10) := Lib.hid (by
      have h := HOE.out.1
      have hI : sealI (l.take (m + 1)) k = iN 0 := by unfold sealI; rw [if_neg hse0]
      rw [hI, HSN.out] at h
      exact h)
    generalize sealE (l.take (m + 1)) k = sE at *
    clear HOE HSL HSI HLE HO CSa HSN HTL
    go_wp2_with fail
    refine HC5.out.mono ?_
    rintro e w6 ⟨rfl, hb6⟩
    have HB6 := Lib.hid (below_next HB4.out HB4.out.size (below_next HB5.out HB5.out.size hb6))
    clear hb6 HC5 HB4 HB5 HK4 x0 x1 x2 x3 y0 y1 y2 y3
    go_wp2_with fail
    go_ret2
    exact ⟨OpenO.err HOF.out (by decide), HB6.out⟩
end Go.Proofs.YthknkdphofjmhaaDoor.Prim
/- Opening what has a sum of 2 bytes. -/
namespace Go.Proofs.YthknkdphofjmhaaDoor.Prim
open Go.RowKit Wd Cb Eid EncB CbCopy CbList CbRight CbWrite CbLays CbSame

set_option maxRecDepth 100000 in
set_option maxHeartbeats 8000000 in
theorem open_yes1 (l : List Itm) (A1 A2 : Option Addr) (c1 c2 k m : Nat) (w : World) (hm : l.length = m + 1) (h0 : c1 ≤ maxLen) (hi : ItemsV w 0 w.heap.size l A2) (hc : m + 1 ≤ c2) (hc2 : c2 ≤ maxLen) (hE : (encs l).length ≤ 900000000) (hd : deeps l ≤ 50000)
    (hT : Tabs w) (hS : Sz w) (hr : Cb.right (lst l) = true) (hk : k < l.length) (ht : typ l[k] = (1 : Nat)) (hz2 : (l[m]).kind = 2) (hz3 : (l[m]).bs.length = 2) :
    Calls Tryd.prog 11 #[.agg #[.int .i64 4, .int .u64 0, .slice A1 0 c1, .slice A2 (m + 1) c2], .int .i64 k] w fun e w' => OpenO w w' (lst l) k e ∧ Below w.heap.size w w' := by
  have hv : ItemV w 0 w.heap.size (lst l) (.agg #[.int .i64 4, .int .u64 0, .slice A1 0 c1, .slice A2 (m + 1) c2]) := by
    have h := ItemV.mk (k := 4) (n := 0) (b := []) (A := A1) (c := c1) ⟨by omega, by omega⟩ ⟨by omega, by omega⟩ (fun q hq => by simp at hq) (Nat.zero_le _) h0 .nil (c' := c2) (by omega) hc2 hi
    rw [hm] at h
    exact h
  have hlen : m + 1 ≤ 900000000 := by have h1 := length_le_sizes l; have h2 := sizes_enc l; omega
  have hse := sizes_enc l
  have hsk := size_at l k hk
  have hdk := deep_at l k hk
  have hcut : cutN (lst l) 1 = m := by
    unfold cutN
    show (if 1 = 0 then l.length else l.length - 1) = _
    simp [hm]
  have hOE := openE_go (x := lst l) (k := k) (q := 1) hr hk ht (last_ok hm hz2 hz3)
  rw [hcut] at hOE
  rw [show (lst l).sub.take m = l.take m from rfl] at hOE
  have HB0 := Lib.hid ((Below.refl w.heap.size w).alloc (Nat.le_refl _) (.cells #[.int .i64 4, .int .u64 0, .slice A1 0 c1, .slice A2 (m + 1) c2] 26))
  have HK0 := Lib.hid (Blk.new w 26 #[.int .i64 4, .int .u64 0, .slice A1 0 c1, .slice A2 (m + 1) c2])
  have HV := Lib.hid (fun (W : World) (h : Below w.heap.size w W) => (hv.below h).more (Nat.le_refl _) h.size)
  have HI := Lib.hid (fun (W : World) (h : Below w.heap.size w W) => (hi.below h).more (lo' := 0) (hi' := W.heap.size) (Nat.le_refl _) h.size)
  have HTW := Lib.hid (fun (W : World) (h : Below w.heap.size w W) => And.intro (hT.below h (Nat.le_refl _)) (hS.below h (Nat.le_refl _)))
  have CR := Lib.hid (right_any (lst l) _ _ _ (HV.out _ HB0.out) (Nat.le_refl _) (HTW.out _ HB0.out).1)
  rw [hr] at CR
  have CS := Lib.hid (fun (W : World) (h : Below w.heap.size w W) => show Calls Tryd.prog 30 #[.slice A2 (m + 1) c2, .int .i64 k] W (fun e w' => e = .returned (.tuple #[.int .i64 2, .bool true]) ∧ Below W.heap.size W w') from by
    have := sumSize_any l A2 W.heap.size c2 k W (HI.out W h) (Nat.le_refl _) hk (by omega) hc2 (by omega) (by omega) (HTW.out W h).2
    rw [ht, hm] at this
    exact this)
  have htl : (l.take m).length = m := by rw [List.length_take]; omega
  have hte := encs_take_le l m
  have htd := deeps_take_le l m
  have CSe := Lib.hid (fun (W : World) (h : Below w.heap.size w W) => show Calls Tryd.prog 8 #[.slice A2 m c2, .int .i64 k] W (fun e w' => ∃ v, e = .returned (.tuple #[v, .int .i64 (sealE (l.take m) k)]) ∧ Hid (SealO W w' (l.take m) k v) ∧ Below W.heap.size W w') from by
    have := seal_any (l.take m) A2 W.heap.size c2 k W (items_take (HI.out W h) _) (Nat.le_refl _) (by omega) hc2 (by omega) (by omega) (HTW.out W h).1 (HTW.out W h).2
    rw [htl] at this
    exact this)
  have CSa := Lib.hid (fun (W : World) (y : Itm) (u : Value) (h : Below w.heap.size w W) (hu : ItemV W 0 W.heap.size y u) (hys : (enc y).length ≤ 1000000000) (hyd : deep y ≤ 60000) => sameTop_any y (lst l) u _ W.heap.size W hu (HV.out W h) (Nat.le_refl _) (by have := size_enc y; omega) (by omega))
  have HSL := Lib.hid (fun (h : sealE (l.take m) k = 0) => sealI_len h)
  have HSI := Lib.hid (fun (h : sealE (l.take m) k = 0) => sealI_list h)
  have HSN : Hid (same (iN 0) (lst l) = false) := Lib.hid (by
    cases h : same (iN 0) (lst l)
    · rfl
    · have := (same_iff _ _).1 h
      simp at this)
  have j0 : (0 : Int) ≤ (k : Int) := by omega
  have j1 : (k : Int) < (m : Int) + 1 := by omega
  have d0 : decide ((k : Int) < 0) = false := decide_eq_false (by omega)
  have d1 : decide ((m : Int) + 1 ≤ (k : Int)) = false := decide_eq_false (by omega)
  have d2 : decide (m + 1 ≤ k) = false := decide_eq_false (by omega)
  have d3 : ¬ c2 = 0 := by omega
  have hc2' := hc2
  unfold maxLen at hc2'
  obtain ⟨b, o, A3, c3, A4, c4, rfl, hlb, hhb, e0, e1, e2, e3, -⟩ := hi.at_ (k := m) (by omega)
  rw [hz2] at e0
  rw [hz3] at e2
  generalize (l[m]).num = n3 at *
  generalize (l[m]).sub.length = n4 at *
  have KE := Lib.hid (fun (W : World) (hW : Below w.heap.size w W) => And.intro ((hW.cell (p := ⟨b, o + m * 4, none⟩) hhb).trans e0) (And.intro ((hW.cell (p := ⟨b, o + m * 4 + 1, none⟩) hhb).trans e1) (And.intro ((hW.cell (p := ⟨b, o + m * 4 + 2, none⟩) hhb).trans e2) ((hW.cell (p := ⟨b, o + m * 4 + 3, none⟩) hhb).trans e3))))
  clear e0 e1 e2 e3
  have HOE := Lib.hid hOE
  have HLE := Lib.hid (And.intro hte (And.intro htd (And.intro hE hd)))
  have HTL := Lib.hid htl
  have HM := Lib.hid hm
  clear hv hT hS hE hd hse hsk hdk hr hOE hcut hi HV HI HTW hte htd htl ht hz2 hz3
  go_enter Tryd.func11, Tryd.ntmps11
  go_wp2_with fail
  refine CR.out.mono ?_
  rintro e w1 ⟨rfl, hb1⟩
  have HB1 := Lib.hid (below_next HB0.out (by simp) hb1)
  have HK1 := Lib.hid (HK0.out.next hb1)
  have hz1 : w.heap.size < w1.heap.size := HK1.out.lt
  obtain ⟨⟨x0, x1, x2, x3⟩, y0, y1, y2, y3⟩ := cells_item HK1.out
  clear hb1 CR HK0 HB0
  go_wp2_with fail
  refine (CS.out _ HB1.out).mono ?_
  rintro e w2 ⟨rfl, hb2⟩
  have HB2 := Lib.hid (below_next HB1.out HB1.out.size hb2)
  have HK2 := Lib.hid (HK1.out.next hb2)
  have hz2 : w.heap.size < w2.heap.size := HK2.out.lt
  clear x0 x1 x2 x3 y0 y1 y2 y3 hb2 CS HK1 HB1
  obtain ⟨⟨x0, x1, x2, x3⟩, y0, y1, y2, y3⟩ := cells_item HK2.out
  obtain ⟨e0, e1, e2, e3⟩ := KE.out w2 HB2.out
  have HB3 := Lib.hid (HB2.out.alloc HB2.out.size (.cells #[.int .i64 2, .int .u64 n3, .slice A3 2 c3, .slice A4 n4 c4] 26))
  have HK3 := Lib.hid (HK2.out.alloc (.cells #[.int .i64 2, .int .u64 n3, .slice A3 2 c3, .slice A4 n4 c4] 26))
  clear HB2 HK2 KE
  go_wp2_with fail
  generalize w2.alloc (.cells #[.int .i64 2, .int .u64 n3, .slice A3 2 c3, .slice A4 n4 c4] 26) = w3 at *
  refine (CSe.out _ HB3.out).mono ?_
  rintro e w4 ⟨v4, rfl, HO, hb4⟩
  have HB4 := Lib.hid (below_next HB3.out HB3.out.size hb4)
  have HK4 := Lib.hid (HK3.out.next hb4)
  have hz4 : w.heap.size < w4.heap.size := HK4.out.lt
  have hw34 : w3.heap.size ≤ w4.heap.size := hb4.size
  have hww3 : w.heap.size ≤ w3.heap.size := HB3.out.size
  clear x0 x1 x2 x3 y0 y1 y2 y3 hb4 CSe HK3 HB3 e0 e1 e2 e3
  obtain ⟨⟨x0, x1, x2, x3⟩, y0, y1, y2, y3⟩ := cells_item HK4.out
  by_cases hse0 : sealE (l.take m) k = 0
  · obtain ⟨g, rfl, hg1, hg2⟩ := HO.out.1 hse0
    rw [hse0]
    have hSL := HSL.out hse0
    have hSI := HSI.out hse0
    have hle := HLE.out
    have htl := HTL.out
    have hlm : (sealI (l.take m) k).sub.length ≤ maxLen := by have := hSL.1; unfold maxLen; omega
    have HI4 := Lib.hid (Laid.item (w := w3) ⟨g, rfl, hg1, hg2⟩ hSI hlm)
    have HR4 := Lib.hid hg2
    have hng : m ≤ (sealI (l.take m) k).sub.length := by have := hSL.2.2.2; omega
    have HCS := Lib.hid (fun (W : World) (h : Below w4.heap.size w4 W) => CSa.out W (sealI (l.take m) k) _ (below_next HB4.out HB4.out.size h) ((HI4.out.below h).more (Nat.zero_le _) h.size) (by have := hSL.2.1; omega) (by have := hSL.2.2.1; omega))
    have HTK := Lib.hid (fun (W : World) (h : Below w4.heap.size w4 W) => items_take ((hg2.below h hg2.lt (Nat.le_refl _)).items (L := w.heap.size) (H := W.heap.size) (by omega) (Nat.lt_of_lt_of_le hg2.lt h.size) (by omega) h.size) m)
    have HCC := Lib.hid (fun (W : World) => clip_items (some ⟨g, 0, none⟩) m (sealI (l.take m) k).sub.length W hng hlm)
    generalize hSN : (sealI (l.take m) k).sub.length = sn at *
    have hsn0 : ¬ sn = 0 := by have h1 := hSL.2.2.2; have h2 := (sealE_zero hse0).1.2; omega
    have hsnm := hlm
    unfold maxLen at hsnm
    have HSN2 := Lib.hid hSN
    clear hSN hSL hSI hle htl HSL HSI HLE HO hg2 HI4
    have HB5 := Lib.hid ((Below.refl w4.heap.size w4).alloc (Nat.le_refl _) (.cells #[.int .i64 4, .int .u64 0, .slice none 0 0, .slice (some ⟨g, 0, none⟩) sn sn] 26))
    have HKs5 := Lib.hid (Blk.new w4 26 #[.int .i64 4, .int .u64 0, .slice none 0 0, .slice (some ⟨g, 0, none⟩) sn sn])
    have HC5 := Lib.hid (HCS.out _ HB5.out)
    cases hsm : same (sealI (l.take m) k) (lst l)
    · rw [hsm] at HC5
      have HOF := Lib.hid HOE.out.1
      rw [hsm] at HOF
      clear hsm HCS HTK HCC HOE HR4
      go_wp2_with fail
      refine HC5.out.mono ?_
      rintro e w6 ⟨rfl, hb6⟩
      have HB6 := Lib.hid (below_next HB4.out HB4.out.size (below_next HB5.out HB5.out.size hb6))
      clear hb6 HC5 HB4 HB5 HK4 HKs5 x0 x1 x2 x3 y0 y1 y2 y3
      go_wp2_with fail
      go_ret2
      exact ⟨OpenO.err HOF.out (by decide), HB6.out⟩
    · rw [hsm] at HC5
      have HOF := Lib.hid HOE.out
      rw [hsm] at HOF
      have HEQ := Lib.hid ((same_iff _ _).1 hsm)
      clear hsm HCS HOE
      go_wp2_with fail
      refine HC5.out.mono ?_
      rintro e w6 ⟨rfl, hb6⟩
      have HB6' := Lib.hid (below_next HB5.out HB5.out.size hb6)
      have HB6 := Lib.hid (below_next HB4.out HB4.out.size HB6'.out)
      obtain ⟨⟨z0, z1, z2, z3⟩, u0, u1, u2, u3⟩ := cells_item (HKs5.out.next hb6)
      have HT6 := Lib.hid (HTK.out w6 HB6'.out)
      clear hb6 HC5 HB4 HB5 HB6' HK4 HKs5 HTK x0 x1 x2 x3 y0 y1 y2 y3
      go_wp2_with fail
      refine (HCC.out _).mono ?_
      rintro e w7 ⟨rfl, rfl⟩
      go_wp2_with fail
      go_ret2
      refine ⟨OpenO.yes (l := l.take m) HOF.out.1 HOF.out.2 HTL.out ?_, HB6.out⟩
      have h := HT6.out
      rw [HEQ.out] at h
      exact h
  · obtain rfl := HO.out.2 hse0
    have HB5 := Lib.hid ((Below.refl w4.heap.size w4).alloc (Nat.le_refl _) (.cells #[.int .i64 0, .int .u64 0, .slice none 0 0, .slice none 0 0] 26))
    have HC5 := Lib.hid (CSa.out _ (iN 0) _ (below_next HB4.out HB4.out.size HB5.out) (item_num _ 0 _ 0 ⟨by omega, by omega⟩) (by decide) (by decide))
    rw [HSN.out] at HC5
    have HOF : Hid (openE (lst l) k = 10) := Lib.hid (by
      have h := HOE.out.1
      have hI : sealI (l.take m) k = iN 0 := by unfold sealI; rw [if_neg hse0]
      rw [hI, HSN.out] at h
      exact h)
    generalize sealE (l.take m) k = sE at *
    clear HOE HSL HSI HLE HO CSa HSN HTL
    go_wp2_with fail
    refine HC5.out.mono ?_
    rintro e w6 ⟨rfl, hb6⟩
    have HB6 := Lib.hid (below_next HB4.out HB4.out.size (below_next HB5.out HB5.out.size hb6))
    clear hb6 HC5 HB4 HB5 HK4 x0 x1 x2 x3 y0 y1 y2 y3
    go_wp2_with fail
    go_ret2
    exact ⟨OpenO.err HOF.out (by decide), HB6.out⟩
end Go.Proofs.YthknkdphofjmhaaDoor.Prim
/- Opening what has a sum of 4 bytes. -/
namespace Go.Proofs.YthknkdphofjmhaaDoor.Prim
open Go.RowKit Wd Cb Eid EncB CbCopy CbList CbRight CbWrite CbLays CbSame

set_option maxRecDepth 100000 in
set_option maxHeartbeats 8000000 in
theorem open_yes2 (l : List Itm) (A1 A2 : Option Addr) (c1 c2 k m : Nat) (w : World) (hm : l.length = m + 1) (h0 : c1 ≤ maxLen) (hi : ItemsV w 0 w.heap.size l A2) (hc : m + 1 ≤ c2) (hc2 : c2 ≤ maxLen) (hE : (encs l).length ≤ 900000000) (hd : deeps l ≤ 50000)
    (hT : Tabs w) (hS : Sz w) (hr : Cb.right (lst l) = true) (hk : k < l.length) (ht : typ l[k] = (2 : Nat)) (hz2 : (l[m]).kind = 2) (hz3 : (l[m]).bs.length = 4) :
    Calls Tryd.prog 11 #[.agg #[.int .i64 4, .int .u64 0, .slice A1 0 c1, .slice A2 (m + 1) c2], .int .i64 k] w fun e w' => OpenO w w' (lst l) k e ∧ Below w.heap.size w w' := by
  have hv : ItemV w 0 w.heap.size (lst l) (.agg #[.int .i64 4, .int .u64 0, .slice A1 0 c1, .slice A2 (m + 1) c2]) := by
    have h := ItemV.mk (k := 4) (n := 0) (b := []) (A := A1) (c := c1) ⟨by omega, by omega⟩ ⟨by omega, by omega⟩ (fun q hq => by simp at hq) (Nat.zero_le _) h0 .nil (c' := c2) (by omega) hc2 hi
    rw [hm] at h
    exact h
  have hlen : m + 1 ≤ 900000000 := by have h1 := length_le_sizes l; have h2 := sizes_enc l; omega
  have hse := sizes_enc l
  have hsk := size_at l k hk
  have hdk := deep_at l k hk
  have hcut : cutN (lst l) 2 = m := by
    unfold cutN
    show (if 2 = 0 then l.length else l.length - 1) = _
    simp [hm]
  have hOE := openE_go (x := lst l) (k := k) (q := 2) hr hk ht (last_ok hm hz2 hz3)
  rw [hcut] at hOE
  rw [show (lst l).sub.take m = l.take m from rfl] at hOE
  have HB0 := Lib.hid ((Below.refl w.heap.size w).alloc (Nat.le_refl _) (.cells #[.int .i64 4, .int .u64 0, .slice A1 0 c1, .slice A2 (m + 1) c2] 26))
  have HK0 := Lib.hid (Blk.new w 26 #[.int .i64 4, .int .u64 0, .slice A1 0 c1, .slice A2 (m + 1) c2])
  have HV := Lib.hid (fun (W : World) (h : Below w.heap.size w W) => (hv.below h).more (Nat.le_refl _) h.size)
  have HI := Lib.hid (fun (W : World) (h : Below w.heap.size w W) => (hi.below h).more (lo' := 0) (hi' := W.heap.size) (Nat.le_refl _) h.size)
  have HTW := Lib.hid (fun (W : World) (h : Below w.heap.size w W) => And.intro (hT.below h (Nat.le_refl _)) (hS.below h (Nat.le_refl _)))
  have CR := Lib.hid (right_any (lst l) _ _ _ (HV.out _ HB0.out) (Nat.le_refl _) (HTW.out _ HB0.out).1)
  rw [hr] at CR
  have CS := Lib.hid (fun (W : World) (h : Below w.heap.size w W) => show Calls Tryd.prog 30 #[.slice A2 (m + 1) c2, .int .i64 k] W (fun e w' => e = .returned (.tuple #[.int .i64 4, .bool true]) ∧ Below W.heap.size W w') from by
    have := sumSize_any l A2 W.heap.size c2 k W (HI.out W h) (Nat.le_refl _) hk (by omega) hc2 (by omega) (by omega) (HTW.out W h).2
    rw [ht, hm] at this
    exact this)
  have htl : (l.take m).length = m := by rw [List.length_take]; omega
  have hte := encs_take_le l m
  have htd := deeps_take_le l m
  have CSe := Lib.hid (fun (W : World) (h : Below w.heap.size w W) => show Calls Tryd.prog 8 #[.slice A2 m c2, .int .i64 k] W (fun e w' => ∃ v, e = .returned (.tuple #[v, .int .i64 (sealE (l.take m) k)]) ∧ Hid (SealO W w' (l.take m) k v) ∧ Below W.heap.size W w') from by
    have := seal_any (l.take m) A2 W.heap.size c2 k W (items_take (HI.out W h) _) (Nat.le_refl _) (by omega) hc2 (by omega) (by omega) (HTW.out W h).1 (HTW.out W h).2
    rw [htl] at this
    exact this)
  have CSa := Lib.hid (fun (W : World) (y : Itm) (u : Value) (h : Below w.heap.size w W) (hu : ItemV W 0 W.heap.size y u) (hys : (enc y).length ≤ 1000000000) (hyd : deep y ≤ 60000) => sameTop_any y (lst l) u _ W.heap.size W hu (HV.out W h) (Nat.le_refl _) (by have := size_enc y; omega) (by omega))
  have HSL := Lib.hid (fun (h : sealE (l.take m) k = 0) => sealI_len h)
  have HSI := Lib.hid (fun (h : sealE (l.take m) k = 0) => sealI_list h)
  have HSN : Hid (same (iN 0) (lst l) = false) := Lib.hid (by
    cases h : same (iN 0) (lst l)
    · rfl
    · have := (same_iff _ _).1 h
      simp at this)
  have j0 : (0 : Int) ≤ (k : Int) := by omega
  have j1 : (k : Int) < (m : Int) + 1 := by omega
  have d0 : decide ((k : Int) < 0) = false := decide_eq_false (by omega)
  have d1 : decide ((m : Int) + 1 ≤ (k : Int)) = false := decide_eq_false (by omega)
  have d2 : decide (m + 1 ≤ k) = false := decide_eq_false (by omega)
  have d3 : ¬ c2 = 0 := by omega
  have hc2' := hc2
  unfold maxLen at hc2'
  obtain ⟨b, o, A3, c3, A4, c4, rfl, hlb, hhb, e0, e1, e2, e3, -⟩ := hi.at_ (k := m) (by omega)
  rw [hz2] at e0
  rw [hz3] at e2
  generalize (l[m]).num = n3 at *
  generalize (l[m]).sub.length = n4 at *
  have KE := Lib.hid (fun (W : World) (hW : Below w.heap.size w W) => And.intro ((hW.cell (p := ⟨b, o + m * 4, none⟩) hhb).trans e0) (And.intro ((hW.cell (p := ⟨b, o + m * 4 + 1, none⟩) hhb).trans e1) (And.intro ((hW.cell (p := ⟨b, o + m * 4 + 2, none⟩) hhb).trans e2) ((hW.cell (p := ⟨b, o + m * 4 + 3, none⟩) hhb).trans e3))))
  clear e0 e1 e2 e3
  have HOE := Lib.hid hOE
  have HLE := Lib.hid (And.intro hte (And.intro htd (And.intro hE hd)))
  have HTL := Lib.hid htl
  have HM := Lib.hid hm
  clear hv hT hS hE hd hse hsk hdk hr hOE hcut hi HV HI HTW hte htd htl ht hz2 hz3
  go_enter Tryd.func11, Tryd.ntmps11
  go_wp2_with fail
  refine CR.out.mono ?_
  rintro e w1 ⟨rfl, hb1⟩
  have HB1 := Lib.hid (below_next HB0.out (by simp) hb1)
  have HK1 := Lib.hid (HK0.out.next hb1)
  have hz1 : w.heap.size < w1.heap.size := HK1.out.lt
  obtain ⟨⟨x0, x1, x2, x3⟩, y0, y1, y2, y3⟩ := cells_item HK1.out
  clear hb1 CR HK0 HB0
  go_wp2_with fail
  refine (CS.out _ HB1.out).mono ?_
  rintro e w2 ⟨rfl, hb2⟩
  have HB2 := Lib.hid (below_next HB1.out HB1.out.size hb2)
  have HK2 := Lib.hid (HK1.out.next hb2)
  have hz2 : w.heap.size < w2.heap.size := HK2.out.lt
  clear x0 x1 x2 x3 y0 y1 y2 y3 hb2 CS HK1 HB1
  obtain ⟨⟨x0, x1, x2, x3⟩, y0, y1, y2, y3⟩ := cells_item HK2.out
  obtain ⟨e0, e1, e2, e3⟩ := KE.out w2 HB2.out
  have HB3 := Lib.hid (HB2.out.alloc HB2.out.size (.cells #[.int .i64 2, .int .u64 n3, .slice A3 4 c3, .slice A4 n4 c4] 26))
  have HK3 := Lib.hid (HK2.out.alloc (.cells #[.int .i64 2, .int .u64 n3, .slice A3 4 c3, .slice A4 n4 c4] 26))
  clear HB2 HK2 KE
  go_wp2_with fail
  generalize w2.alloc (.cells #[.int .i64 2, .int .u64 n3, .slice A3 4 c3, .slice A4 n4 c4] 26) = w3 at *
  refine (CSe.out _ HB3.out).mono ?_
  rintro e w4 ⟨v4, rfl, HO, hb4⟩
  have HB4 := Lib.hid (below_next HB3.out HB3.out.size hb4)
  have HK4 := Lib.hid (HK3.out.next hb4)
  have hz4 : w.heap.size < w4.heap.size := HK4.out.lt
  have hw34 : w3.heap.size ≤ w4.heap.size := hb4.size
  have hww3 : w.heap.size ≤ w3.heap.size := HB3.out.size
  clear x0 x1 x2 x3 y0 y1 y2 y3 hb4 CSe HK3 HB3 e0 e1 e2 e3
  obtain ⟨⟨x0, x1, x2, x3⟩, y0, y1, y2, y3⟩ := cells_item HK4.out
  by_cases hse0 : sealE (l.take m) k = 0
  · obtain ⟨g, rfl, hg1, hg2⟩ := HO.out.1 hse0
    rw [hse0]
    have hSL := HSL.out hse0
    have hSI := HSI.out hse0
    have hle := HLE.out
    have htl := HTL.out
    have hlm : (sealI (l.take m) k).sub.length ≤ maxLen := by have := hSL.1; unfold maxLen; omega
    have HI4 := Lib.hid (Laid.item (w := w3) ⟨g, rfl, hg1, hg2⟩ hSI hlm)
    have HR4 := Lib.hid hg2
    have hng : m ≤ (sealI (l.take m) k).sub.length := by have := hSL.2.2.2; omega
    have HCS := Lib.hid (fun (W : World) (h : Below w4.heap.size w4 W) => CSa.out W (sealI (l.take m) k) _ (below_next HB4.out HB4.out.size h) ((HI4.out.below h).more (Nat.zero_le _) h.size) (by have := hSL.2.1; omega) (by have := hSL.2.2.1; omega))
    have HTK := Lib.hid (fun (W : World) (h : Below w4.heap.size w4 W) => items_take ((hg2.below h hg2.lt (Nat.le_refl _)).items (L := w.heap.size) (H := W.heap.size) (by omega) (Nat.lt_of_lt_of_le hg2.lt h.size) (by omega) h.size) m)
    have HCC := Lib.hid (fun (W : World) => clip_items (some ⟨g, 0, none⟩) m (sealI (l.take m) k).sub.length W hng hlm)
    generalize hSN : (sealI (l.take m) k).sub.length = sn at *
    have hsn0 : ¬ sn = 0 := by have h1 := hSL.2.2.2; have h2 := (sealE_zero hse0).1.2; omega
    have hsnm := hlm
    unfold maxLen at hsnm
    have HSN2 := Lib.hid hSN
    clear hSN hSL hSI hle htl HSL HSI HLE HO hg2 HI4
    have HB5 := Lib.hid ((Below.refl w4.heap.size w4).alloc (Nat.le_refl _) (.cells #[.int .i64 4, .int .u64 0, .slice none 0 0, .slice (some ⟨g, 0, none⟩) sn sn] 26))
    have HKs5 := Lib.hid (Blk.new w4 26 #[.int .i64 4, .int .u64 0, .slice none 0 0, .slice (some ⟨g, 0, none⟩) sn sn])
    have HC5 := Lib.hid (HCS.out _ HB5.out)
    cases hsm : same (sealI (l.take m) k) (lst l)
    · rw [hsm] at HC5
      have HOF := Lib.hid HOE.out.1
      rw [hsm] at HOF
      clear hsm HCS HTK HCC HOE HR4
      go_wp2_with fail
      refine HC5.out.mono ?_
      rintro e w6 ⟨rfl, hb6⟩
      have HB6 := Lib.hid (below_next HB4.out HB4.out.size (below_next HB5.out HB5.out.size hb6))
      clear hb6 HC5 HB4 HB5 HK4 HKs5 x0 x1 x2 x3 y0 y1 y2 y3
      go_wp2_with fail
      go_ret2
      exact ⟨OpenO.err HOF.out (by decide), HB6.out⟩
    · rw [hsm] at HC5
      have HOF := Lib.hid HOE.out
      rw [hsm] at HOF
      have HEQ := Lib.hid ((same_iff _ _).1 hsm)
      clear hsm HCS HOE
      go_wp2_with fail
      refine HC5.out.mono ?_
      rintro e w6 ⟨rfl, hb6⟩
      have HB6' := Lib.hid (below_next HB5.out HB5.out.size hb6)
      have HB6 := Lib.hid (below_next HB4.out HB4.out.size HB6'.out)
      obtain ⟨⟨z0, z1, z2, z3⟩, u0, u1, u2, u3⟩ := cells_item (HKs5.out.next hb6)
      have HT6 := Lib.hid (HTK.out w6 HB6'.out)
      clear hb6 HC5 HB4 HB5 HB6' HK4 HKs5 HTK x0 x1 x2 x3 y0 y1 y2 y3
      go_wp2_with fail
      refine (HCC.out _).mono ?_
      rintro e w7 ⟨rfl, rfl⟩
      go_wp2_with fail
      go_ret2
      refine ⟨OpenO.yes (l := l.take m) HOF.out.1 HOF.out.2 HTL.out ?_, HB6.out⟩
      have h := HT6.out
      rw [HEQ.out] at h
      exact h
  · obtain rfl := HO.out.2 hse0
    have HB5 := Lib.hid ((Below.refl w4.heap.size w4).alloc (Nat.le_refl _) (.cells #[.int .i64 0, .int .u64 0, .slice none 0 0, .slice none 0 0] 26))
    have HC5 := Lib.hid (CSa.out _ (iN 0) _ (below_next HB4.out HB4.out.size HB5.out) (item_num _ 0 _ 0 ⟨by omega, by omega⟩) (by decide) (by decide))
    rw [HSN.out] at HC5
    have HOF : Hid (openE (lst l) k = 10) := Lib.hid (by
      have h := HOE.out.1
      have hI : sealI (l.take m) k = iN 0 := by unfold sealI; rw [if_neg hse0]
      rw [hI, HSN.out] at h
      exact h)
    generalize sealE (l.take m) k = sE at *
    clear HOE HSL HSI HLE HO CSa HSN HTL
    go_wp2_with fail
    refine HC5.out.mono ?_
    rintro e w6 ⟨rfl, hb6⟩
    have HB6 := Lib.hid (below_next HB4.out HB4.out.size (below_next HB5.out HB5.out.size hb6))
    clear hb6 HC5 HB4 HB5 HK4 x0 x1 x2 x3 y0 y1 y2 y3
    go_wp2_with fail
    go_ret2
    exact ⟨OpenO.err HOF.out (by decide), HB6.out⟩
end Go.Proofs.YthknkdphofjmhaaDoor.Prim
/- Opening, whatever comes: the contract of Open. -/
namespace Go.Proofs.YthknkdphofjmhaaDoor.Prim
open Go.RowKit Wd Cb Eid EncB CbCopy CbList CbRight CbWrite CbLays CbSame

theorem openE_right {x : Itm} {a : Int} (h : Cb.right x = false) : openE x a = 3 := by
  unfold openE
  rw [h]
  rfl
theorem openE_typ {x : Itm} {a : Int} (h : typAt x.sub a < 0) : openE x a = 3 := by
  unfold openE
  rw [decide_eq_false (show ¬ 0 ≤ typAt x.sub a by omega)]
  simp
theorem openE_last {x : Itm} {a : Int} {q : Nat} (h : typAt x.sub a = q) (hl : lastOk x q = false) : openE x a = 3 := by
  unfold openE
  rw [h, Int.toNat_natCast, hl]
  simp

set_option maxRecDepth 100000 in
set_option maxHeartbeats 8000000 in
theorem open_wrong (x : Itm) (A1 A2 : Option Addr) (c1 c2 : Nat) (a : Int) (w : World) (hv : ItemV w 0 w.heap.size x (.agg #[.int .i64 x.kind, .int .u64 x.num, .slice A1 x.bs.length c1, .slice A2 x.sub.length c2])) (hT : Tabs w) (hr : Cb.right x = false) :
    Calls Tryd.prog 11 #[.agg #[.int .i64 x.kind, .int .u64 x.num, .slice A1 x.bs.length c1, .slice A2 x.sub.length c2], .int .i64 a] w fun e w' => OpenO w w' x a e ∧ Below w.heap.size w w' := by
  have hE := openE_right (a := a) hr
  have HB0 := Lib.hid ((Below.refl w.heap.size w).alloc (Nat.le_refl _) (.cells #[.int .i64 x.kind, .int .u64 x.num, .slice A1 x.bs.length c1, .slice A2 x.sub.length c2] 26))
  have HK0 := Lib.hid (Blk.new w 26 #[.int .i64 x.kind, .int .u64 x.num, .slice A1 x.bs.length c1, .slice A2 x.sub.length c2])
  have CR := Lib.hid (right_any x _ _ _ ((hv.below HB0.out).more (Nat.le_refl _) HB0.out.size) (Nat.le_refl _) (hT.below HB0.out (Nat.le_refl _)))
  rw [hr] at CR
  have HE := Lib.hid hE
  clear hv hT hr hE
  generalize x.kind = xk at *
  generalize x.num = xn at *
  generalize x.bs.length = xb at *
  generalize x.sub.length = xl at *
  go_enter Tryd.func11, Tryd.ntmps11
  go_wp2_with fail
  refine CR.out.mono ?_
  rintro e w1 ⟨rfl, hb1⟩
  have HB1 := Lib.hid (below_next HB0.out (by simp) hb1)
  obtain ⟨⟨x0, x1, x2, x3⟩, y0, y1, y2, y3⟩ := cells_item (HK0.out.next hb1)
  clear hb1 CR HK0 HB0
  go_wp2_with fail
  go_ret2
  exact ⟨OpenO.err HE.out (by decide), HB1.out⟩

set_option maxRecDepth 100000 in
set_option maxHeartbeats 8000000 in
theorem open_lo (x : Itm) (A1 A2 : Option Addr) (c1 c2 : Nat) (a : Int) (w : World) (hv : ItemV w 0 w.heap.size x (.agg #[.int .i64 x.kind, .int .u64 x.num, .slice A1 x.bs.length c1, .slice A2 x.sub.length c2])) (hT : Tabs w) (hr : Cb.right x = true) (ha : a < 0) :
    Calls Tryd.prog 11 #[.agg #[.int .i64 x.kind, .int .u64 x.num, .slice A1 x.bs.length c1, .slice A2 x.sub.length c2], .int .i64 a] w fun e w' => OpenO w w' x a e ∧ Below w.heap.size w w' := by
  have hE : openE x a = 3 := openE_typ (by unfold typAt; rw [if_pos (.inl ha)]; omega)
  have d0 : decide (a < 0) = true := decide_eq_true ha
  have HB0 := Lib.hid ((Below.refl w.heap.size w).alloc (Nat.le_refl _) (.cells #[.int .i64 x.kind, .int .u64 x.num, .slice A1 x.bs.length c1, .slice A2 x.sub.length c2] 26))
  have HK0 := Lib.hid (Blk.new w 26 #[.int .i64 x.kind, .int .u64 x.num, .slice A1 x.bs.length c1, .slice A2 x.sub.length c2])
  have CR := Lib.hid (right_any x _ _ _ ((hv.below HB0.out).more (Nat.le_refl _) HB0.out.size) (Nat.le_refl _) (hT.below HB0.out (Nat.le_refl _)))
  rw [hr] at CR
  have HE := Lib.hid hE
  clear hv hT hr hE
  generalize x.kind = xk at *
  generalize x.num = xn at *
  generalize x.bs.length = xb at *
  generalize x.sub.length = xl at *
  go_enter Tryd.func11, Tryd.ntmps11
  go_wp2_with fail
  refine CR.out.mono ?_
  rintro e w1 ⟨rfl, hb1⟩
  have HB1 := Lib.hid (below_next HB0.out (by simp) hb1)
  obtain ⟨⟨x0, x1, x2, x3⟩, y0, y1, y2, y3⟩ := cells_item (HK0.out.next hb1)
  clear hb1 CR HK0 HB0
  go_wp2_with fail
  go_ret2
  exact ⟨OpenO.err HE.out (by decide), HB1.out⟩

set_option maxRecDepth 100000 in
set_option maxHeartbeats 8000000 in
theorem open_hi (x : Itm) (A1 A2 : Option Addr) (c1 c2 : Nat) (a : Int) (w : World) (hv : ItemV w 0 w.heap.size x (.agg #[.int .i64 x.kind, .int .u64 x.num, .slice A1 x.bs.length c1, .slice A2 x.sub.length c2])) (hT : Tabs w) (hr : Cb.right x = true) (ha : ¬ a < 0) (hb : (x.sub.length : Int) ≤ a) :
    Calls Tryd.prog 11 #[.agg #[.int .i64 x.kind, .int .u64 x.num, .slice A1 x.bs.length c1, .slice A2 x.sub.length c2], .int .i64 a] w fun e w' => OpenO w w' x a e ∧ Below w.heap.size w w' := by
  have hE : openE x a = 3 := openE_typ (by unfold typAt; rw [if_pos (.inr hb)]; omega)
  have d0 : decide (a < 0) = false := decide_eq_false ha
  have d1 : decide ((x.sub.length : Int) ≤ a) = true := decide_eq_true hb
  have HB0 := Lib.hid ((Below.refl w.heap.size w).alloc (Nat.le_refl _) (.cells #[.int .i64 x.kind, .int .u64 x.num, .slice A1 x.bs.length c1, .slice A2 x.sub.length c2] 26))
  have HK0 := Lib.hid (Blk.new w 26 #[.int .i64 x.kind, .int .u64 x.num, .slice A1 x.bs.length c1, .slice A2 x.sub.length c2])
  have CR := Lib.hid (right_any x _ _ _ ((hv.below HB0.out).more (Nat.le_refl _) HB0.out.size) (Nat.le_refl _) (hT.below HB0.out (Nat.le_refl _)))
  rw [hr] at CR
  have HE := Lib.hid hE
  clear hv hT hr hE
  generalize x.kind = xk at *
  generalize x.num = xn at *
  generalize x.bs.length = xb at *
  generalize x.sub.length = xl at *
  go_enter Tryd.func11, Tryd.ntmps11
  go_wp2_with fail
  refine CR.out.mono ?_
  rintro e w1 ⟨rfl, hb1⟩
  have HB1 := Lib.hid (below_next HB0.out (by simp) hb1)
  obtain ⟨⟨x0, x1, x2, x3⟩, y0, y1, y2, y3⟩ := cells_item (HK0.out.next hb1)
  clear hb1 CR HK0 HB0
  go_wp2_with fail
  go_ret2
  exact ⟨OpenO.err HE.out (by decide), HB1.out⟩
theorem last_no {l : List Itm} {m q : Nat} (hm : l.length = m + 1) (hq : q ≠ 0) (h : ¬ (l[m]).kind = 2 ∨ ¬ (l[m]).bs.length = 2 * q) : lastOk (lst l) q = false := by
  have e : l.getD (l.length - 1) (iN 0) = l[m] := by simp [List.getD, hm]
  unfold lastOk
  show (q == 0 || ((l.getD (l.length - 1) (iN 0)).kind == 2 && decide ((l.getD (l.length - 1) (iN 0)).bs.length = 2 * q))) = false
  rw [e]
  rcases h with h | h <;> simp [h, hq]

set_option maxRecDepth 100000 in
set_option maxHeartbeats 8000000 in
theorem open_form (l : List Itm) (A1 A2 : Option Addr) (c1 c2 k m : Nat) (w : World) (hm : l.length = m + 1) (h0 : c1 ≤ maxLen) (hi : ItemsV w 0 w.heap.size l A2) (hc : m + 1 ≤ c2) (hc2 : c2 ≤ maxLen) (hE : (encs l).length ≤ 900000000) (hd : deeps l ≤ 50000)
    (hT : Tabs w) (hS : Sz w) (hr : Cb.right (lst l) = true) (hk : k < l.length) (ht : typ l[k] = -1) :
    Calls Tryd.prog 11 #[.agg #[.int .i64 4, .int .u64 0, .slice A1 0 c1, .slice A2 (m + 1) c2], .int .i64 k] w fun e w' => OpenO w w' (lst l) k e ∧ Below w.heap.size w w' := by
  have hv : ItemV w 0 w.heap.size (lst l) (.agg #[.int .i64 4, .int .u64 0, .slice A1 0 c1, .slice A2 (m + 1) c2]) := by
    have h := ItemV.mk (k := 4) (n := 0) (b := []) (A := A1) (c := c1) ⟨by omega, by omega⟩ ⟨by omega, by omega⟩ (fun q hq => by simp at hq) (Nat.zero_le _) h0 .nil (c' := c2) (by omega) hc2 hi
    rw [hm] at h
    exact h
  have hse := sizes_enc l
  have hsk := size_at l k hk
  have hdk := deep_at l k hk
  have HE := Lib.hid (show openE (lst l) k = 3 from openE_typ (by show typAt l k < 0; rw [typAt_in l k hk, ht]; omega))
  have HB0 := Lib.hid ((Below.refl w.heap.size w).alloc (Nat.le_refl _) (.cells #[.int .i64 4, .int .u64 0, .slice A1 0 c1, .slice A2 (m + 1) c2] 26))
  have HK0 := Lib.hid (Blk.new w 26 #[.int .i64 4, .int .u64 0, .slice A1 0 c1, .slice A2 (m + 1) c2])
  have HV := Lib.hid (fun (W : World) (h : Below w.heap.size w W) => (hv.below h).more (Nat.le_refl _) h.size)
  have HI := Lib.hid (fun (W : World) (h : Below w.heap.size w W) => (hi.below h).more (lo' := 0) (hi' := W.heap.size) (Nat.le_refl _) h.size)
  have HTW := Lib.hid (fun (W : World) (h : Below w.heap.size w W) => And.intro (hT.below h (Nat.le_refl _)) (hS.below h (Nat.le_refl _)))
  have CR := Lib.hid (right_any (lst l) _ _ _ (HV.out _ HB0.out) (Nat.le_refl _) (HTW.out _ HB0.out).1)
  rw [hr] at CR
  have CS := Lib.hid (fun (W : World) (h : Below w.heap.size w W) => show Calls Tryd.prog 30 #[.slice A2 (m + 1) c2, .int .i64 k] W (fun e w' => e = .returned (.tuple #[.int .i64 0, .bool false]) ∧ Below W.heap.size W w') from by
    have := sumSize_any l A2 W.heap.size c2 k W (HI.out W h) (Nat.le_refl _) hk (by omega) hc2 (by omega) (by omega) (HTW.out W h).2
    rw [ht, hm] at this
    exact this)
  have j0 : (0 : Int) ≤ (k : Int) := by omega
  have j1 : (k : Int) < (m : Int) + 1 := by omega
  have d0 : decide ((k : Int) < 0) = false := decide_eq_false (by omega)
  have d1 : decide ((m : Int) + 1 ≤ (k : Int)) = false := decide_eq_false (by omega)
  have d2 : decide (m + 1 ≤ k) = false := decide_eq_false (by omega)
  have d3 : ¬ c2 = 0 := by omega
  have hc2' := hc2
  unfold maxLen at hc2'
  clear hv hT hS hE hd hse hsk hdk hr hi HV HI HTW ht hm
  go_enter Tryd.func11, Tryd.ntmps11
  go_wp2_with fail
  refine CR.out.mono ?_
  rintro e w1 ⟨rfl, hb1⟩
  have HB1 := Lib.hid (below_next HB0.out (by simp) hb1)
  have HK1 := Lib.hid (HK0.out.next hb1)
  obtain ⟨⟨x0, x1, x2, x3⟩, y0, y1, y2, y3⟩ := cells_item HK1.out
  clear hb1 CR HK0 HB0
  go_wp2_with fail
  refine (CS.out _ HB1.out).mono ?_
  rintro e w2 ⟨rfl, hb2⟩
  have HB2 := Lib.hid (below_next HB1.out HB1.out.size hb2)
  have HK2 := Lib.hid (HK1.out.next hb2)
  clear x0 x1 x2 x3 y0 y1 y2 y3 hb2 CS HK1 HB1
  clear HK2
  go_wp2_with fail
  go_ret2
  exact ⟨OpenO.err HE.out (by decide), HB2.out⟩

set_option maxRecDepth 100000 in
set_option maxHeartbeats 8000000 in
theorem open_kind1 (l : List Itm) (A1 A2 : Option Addr) (c1 c2 k m : Nat) (w : World) (hm : l.length = m + 1) (h0 : c1 ≤ maxLen) (hi : ItemsV w 0 w.heap.size l A2) (hc : m + 1 ≤ c2) (hc2 : c2 ≤ maxLen) (hE : (encs l).length ≤ 900000000) (hd : deeps l ≤ 50000)
    (hT : Tabs w) (hS : Sz w) (hr : Cb.right (lst l) = true) (hk : k < l.length) (ht : typ l[k] = (1 : Nat)) (hz2 : ¬ (l[m]).kind = 2) :
    Calls Tryd.prog 11 #[.agg #[.int .i64 4, .int .u64 0, .slice A1 0 c1, .slice A2 (m + 1) c2], .int .i64 k] w fun e w' => OpenO w w' (lst l) k e ∧ Below w.heap.size w w' := by
  have hv : ItemV w 0 w.heap.size (lst l) (.agg #[.int .i64 4, .int .u64 0, .slice A1 0 c1, .slice A2 (m + 1) c2]) := by
    have h := ItemV.mk (k := 4) (n := 0) (b := []) (A := A1) (c := c1) ⟨by omega, by omega⟩ ⟨by omega, by omega⟩ (fun q hq => by simp at hq) (Nat.zero_le _) h0 .nil (c' := c2) (by omega) hc2 hi
    rw [hm] at h
    exact h
  have hse := sizes_enc l
  have hsk := size_at l k hk
  have hdk := deep_at l k hk
  have HE := Lib.hid (show openE (lst l) k = 3 from openE_last (q := 1) (by show typAt l k = _; rw [typAt_in l k hk, ht]) (last_no hm (by decide) (.inl hz2)))
  have HB0 := Lib.hid ((Below.refl w.heap.size w).alloc (Nat.le_refl _) (.cells #[.int .i64 4, .int .u64 0, .slice A1 0 c1, .slice A2 (m + 1) c2] 26))
  have HK0 := Lib.hid (Blk.new w 26 #[.int .i64 4, .int .u64 0, .slice A1 0 c1, .slice A2 (m + 1) c2])
  have HV := Lib.hid (fun (W : World) (h : Below w.heap.size w W) => (hv.below h).more (Nat.le_refl _) h.size)
  have HI := Lib.hid (fun (W : World) (h : Below w.heap.size w W) => (hi.below h).more (lo' := 0) (hi' := W.heap.size) (Nat.le_refl _) h.size)
  have HTW := Lib.hid (fun (W : World) (h : Below w.heap.size w W) => And.intro (hT.below h (Nat.le_refl _)) (hS.below h (Nat.le_refl _)))
  have CR := Lib.hid (right_any (lst l) _ _ _ (HV.out _ HB0.out) (Nat.le_refl _) (HTW.out _ HB0.out).1)
  rw [hr] at CR
  have CS := Lib.hid (fun (W : World) (h : Below w.heap.size w W) => show Calls Tryd.prog 30 #[.slice A2 (m + 1) c2, .int .i64 k] W (fun e w' => e = .returned (.tuple #[.int .i64 2, .bool true]) ∧ Below W.heap.size W w') from by
    have := sumSize_any l A2 W.heap.size c2 k W (HI.out W h) (Nat.le_refl _) hk (by omega) hc2 (by omega) (by omega) (HTW.out W h).2
    rw [ht, hm] at this
    exact this)
  have j0 : (0 : Int) ≤ (k : Int) := by omega
  have j1 : (k : Int) < (m : Int) + 1 := by omega
  have d0 : decide ((k : Int) < 0) = false := decide_eq_false (by omega)
  have d1 : decide ((m : Int) + 1 ≤ (k : Int)) = false := decide_eq_false (by omega)
  have d2 : decide (m + 1 ≤ k) = false := decide_eq_false (by omega)
  have d3 : ¬ c2 = 0 := by omega
  have hc2' := hc2
  unfold maxLen at hc2'
  obtain ⟨b, o, A3, c3, A4, c4, rfl, hlb, hhb, e0, e1, e2, e3, -⟩ := hi.at_ (k := m) (by omega)
  generalize (l[m]).kind = zk at *
  generalize (l[m]).bs.length = zb at *
  have f1 : (zk == 2) = false := by simpa using hz2
  have f2 : (zk != 2) = true := by simp [bne, f1]
  generalize (l[m]).num = n3 at *
  generalize (l[m]).sub.length = n4 at *
  have KE := Lib.hid (fun (W : World) (hW : Below w.heap.size w W) => And.intro ((hW.cell (p := ⟨b, o + m * 4, none⟩) hhb).trans e0) (And.intro ((hW.cell (p := ⟨b, o + m * 4 + 1, none⟩) hhb).trans e1) (And.intro ((hW.cell (p := ⟨b, o + m * 4 + 2, none⟩) hhb).trans e2) ((hW.cell (p := ⟨b, o + m * 4 + 3, none⟩) hhb).trans e3))))
  clear e0 e1 e2 e3
  clear hv hT hS hE hd hse hsk hdk hr hi HV HI HTW ht hm
  go_enter Tryd.func11, Tryd.ntmps11
  go_wp2_with fail
  refine CR.out.mono ?_
  rintro e w1 ⟨rfl, hb1⟩
  have HB1 := Lib.hid (below_next HB0.out (by simp) hb1)
  have HK1 := Lib.hid (HK0.out.next hb1)
  obtain ⟨⟨x0, x1, x2, x3⟩, y0, y1, y2, y3⟩ := cells_item HK1.out
  clear hb1 CR HK0 HB0
  go_wp2_with fail
  refine (CS.out _ HB1.out).mono ?_
  rintro e w2 ⟨rfl, hb2⟩
  have HB2 := Lib.hid (below_next HB1.out HB1.out.size hb2)
  have HK2 := Lib.hid (HK1.out.next hb2)
  clear x0 x1 x2 x3 y0 y1 y2 y3 hb2 CS HK1 HB1
  obtain ⟨⟨x0, x1, x2, x3⟩, y0, y1, y2, y3⟩ := cells_item HK2.out
  obtain ⟨e0, e1, e2, e3⟩ := KE.out w2 HB2.out
  clear HK2 KE
  go_wp2_with fail
  go_ret2
  exact ⟨OpenO.err HE.out (by decide), HB2.out.alloc HB2.out.size _⟩

set_option maxRecDepth 100000 in
set_option maxHeartbeats 8000000 in
theorem open_size1 (l : List Itm) (A1 A2 : Option Addr) (c1 c2 k m : Nat) (w : World) (hm : l.length = m + 1) (h0 : c1 ≤ maxLen) (hi : ItemsV w 0 w.heap.size l A2) (hc : m + 1 ≤ c2) (hc2 : c2 ≤ maxLen) (hE : (encs l).length ≤ 900000000) (hd : deeps l ≤ 50000)
    (hT : Tabs w) (hS : Sz w) (hr : Cb.right (lst l) = true) (hk : k < l.length) (ht : typ l[k] = (1 : Nat)) (hz2 : (l[m]).kind = 2) (hz3 : ¬ (l[m]).bs.length = 2) :
    Calls Tryd.prog 11 #[.agg #[.int .i64 4, .int .u64 0, .slice A1 0 c1, .slice A2 (m + 1) c2], .int .i64 k] w fun e w' => OpenO w w' (lst l) k e ∧ Below w.heap.size w w' := by
  have hv : ItemV w 0 w.heap.size (lst l) (.agg #[.int .i64 4, .int .u64 0, .slice A1 0 c1, .slice A2 (m + 1) c2]) := by
    have h := ItemV.mk (k := 4) (n := 0) (b := []) (A := A1) (c := c1) ⟨by omega, by omega⟩ ⟨by omega, by omega⟩ (fun q hq => by simp at hq) (Nat.zero_le _) h0 .nil (c' := c2) (by omega) hc2 hi
    rw [hm] at h
    exact h
  have hse := sizes_enc l
  have hsk := size_at l k hk
  have hdk := deep_at l k hk
  have HE := Lib.hid (show openE (lst l) k = 3 from openE_last (q := 1) (by show typAt l k = _; rw [typAt_in l k hk, ht]) (last_no hm (by decide) (.inr hz3)))
  have HB0 := Lib.hid ((Below.refl w.heap.size w).alloc (Nat.le_refl _) (.cells #[.int .i64 4, .int .u64 0, .slice A1 0 c1, .slice A2 (m + 1) c2] 26))
  have HK0 := Lib.hid (Blk.new w 26 #[.int .i64 4, .int .u64 0, .slice A1 0 c1, .slice A2 (m + 1) c2])
  have HV := Lib.hid (fun (W : World) (h : Below w.heap.size w W) => (hv.below h).more (Nat.le_refl _) h.size)
  have HI := Lib.hid (fun (W : World) (h : Below w.heap.size w W) => (hi.below h).more (lo' := 0) (hi' := W.heap.size) (Nat.le_refl _) h.size)
  have HTW := Lib.hid (fun (W : World) (h : Below w.heap.size w W) => And.intro (hT.below h (Nat.le_refl _)) (hS.below h (Nat.le_refl _)))
  have CR := Lib.hid (right_any (lst l) _ _ _ (HV.out _ HB0.out) (Nat.le_refl _) (HTW.out _ HB0.out).1)
  rw [hr] at CR
  have CS := Lib.hid (fun (W : World) (h : Below w.heap.size w W) => show Calls Tryd.prog 30 #[.slice A2 (m + 1) c2, .int .i64 k] W (fun e w' => e = .returned (.tuple #[.int .i64 2, .bool true]) ∧ Below W.heap.size W w') from by
    have := sumSize_any l A2 W.heap.size c2 k W (HI.out W h) (Nat.le_refl _) hk (by omega) hc2 (by omega) (by omega) (HTW.out W h).2
    rw [ht, hm] at this
    exact this)
  have j0 : (0 : Int) ≤ (k : Int) := by omega
  have j1 : (k : Int) < (m : Int) + 1 := by omega
  have d0 : decide ((k : Int) < 0) = false := decide_eq_false (by omega)
  have d1 : decide ((m : Int) + 1 ≤ (k : Int)) = false := decide_eq_false (by omega)
  have d2 : decide (m + 1 ≤ k) = false := decide_eq_false (by omega)
  have d3 : ¬ c2 = 0 := by omega
  have hc2' := hc2
  unfold maxLen at hc2'
  obtain ⟨b, o, A3, c3, A4, c4, rfl, hlb, hhb, e0, e1, e2, e3, -⟩ := hi.at_ (k := m) (by omega)
  rw [hz2] at e0
  generalize (l[m]).bs.length = zb at *
  have hz4 : ¬ (zb : Int) = 2 := by omega
  have f1 : ((zb : Int) == 2) = false := by simpa using hz4
  have f2 : ((zb : Int) != 2) = true := by simp [bne, f1]
  generalize (l[m]).num = n3 at *
  generalize (l[m]).sub.length = n4 at *
  have KE := Lib.hid (fun (W : World) (hW : Below w.heap.size w W) => And.intro ((hW.cell (p := ⟨b, o + m * 4, none⟩) hhb).trans e0) (And.intro ((hW.cell (p := ⟨b, o + m * 4 + 1, none⟩) hhb).trans e1) (And.intro ((hW.cell (p := ⟨b, o + m * 4 + 2, none⟩) hhb).trans e2) ((hW.cell (p := ⟨b, o + m * 4 + 3, none⟩) hhb).trans e3))))
  clear e0 e1 e2 e3
  clear hv hT hS hE hd hse hsk hdk hr hi HV HI HTW ht hz2 hm
  go_enter Tryd.func11, Tryd.ntmps11
  go_wp2_with fail
  refine CR.out.mono ?_
  rintro e w1 ⟨rfl, hb1⟩
  have HB1 := Lib.hid (below_next HB0.out (by simp) hb1)
  have HK1 := Lib.hid (HK0.out.next hb1)
  obtain ⟨⟨x0, x1, x2, x3⟩, y0, y1, y2, y3⟩ := cells_item HK1.out
  clear hb1 CR HK0 HB0
  go_wp2_with fail
  refine (CS.out _ HB1.out).mono ?_
  rintro e w2 ⟨rfl, hb2⟩
  have HB2 := Lib.hid (below_next HB1.out HB1.out.size hb2)
  have HK2 := Lib.hid (HK1.out.next hb2)
  clear x0 x1 x2 x3 y0 y1 y2 y3 hb2 CS HK1 HB1
  obtain ⟨⟨x0, x1, x2, x3⟩, y0, y1, y2, y3⟩ := cells_item HK2.out
  obtain ⟨e0, e1, e2, e3⟩ := KE.out w2 HB2.out
  clear HK2 KE
  go_wp2_with fail
  go_ret2
  exact ⟨OpenO.err HE.out (by decide), HB2.out.alloc HB2.out.size _⟩

set_option maxRecDepth 100000 in
set_option maxHeartbeats 8000000 in
theorem open_kind2 (l : List Itm) (A1 A2 : Option Addr) (c1 c2 k m : Nat) (w : World) (hm : l.length = m + 1) (h0 : c1 ≤ maxLen) (hi : ItemsV w 0 w.heap.size l A2) (hc : m + 1 ≤ c2) (hc2 : c2 ≤ maxLen) (hE : (encs l).length ≤ 900000000) (hd : deeps l ≤ 50000)
    (hT : Tabs w) (hS : Sz w) (hr : Cb.right (lst l) = true) (hk : k < l.length) (ht : typ l[k] = (2 : Nat)) (hz2 : ¬ (l[m]).kind = 2) :
    Calls Tryd.prog 11 #[.agg #[.int .i64 4, .int .u64 0, .slice A1 0 c1, .slice A2 (m + 1) c2], .int .i64 k] w fun e w' => OpenO w w' (lst l) k e ∧ Below w.heap.size w w' := by
  have hv : ItemV w 0 w.heap.size (lst l) (.agg #[.int .i64 4, .int .u64 0, .slice A1 0 c1, .slice A2 (m + 1) c2]) := by
    have h := ItemV.mk (k := 4) (n := 0) (b := []) (A := A1) (c := c1) ⟨by omega, by omega⟩ ⟨by omega, by omega⟩ (fun q hq => by simp at hq) (Nat.zero_le _) h0 .nil (c' := c2) (by omega) hc2 hi
    rw [hm] at h
    exact h
  have hse := sizes_enc l
  have hsk := size_at l k hk
  have hdk := deep_at l k hk
  have HE := Lib.hid (show openE (lst l) k = 3 from openE_last (q := 2) (by show typAt l k = _; rw [typAt_in l k hk, ht]) (last_no hm (by decide) (.inl hz2)))
  have HB0 := Lib.hid ((Below.refl w.heap.size w).alloc (Nat.le_refl _) (.cells #[.int .i64 4, .int .u64 0, .slice A1 0 c1, .slice A2 (m + 1) c2] 26))
  have HK0 := Lib.hid (Blk.new w 26 #[.int .i64 4, .int .u64 0, .slice A1 0 c1, .slice A2 (m + 1) c2])
  have HV := Lib.hid (fun (W : World) (h : Below w.heap.size w W) => (hv.below h).more (Nat.le_refl _) h.size)
  have HI := Lib.hid (fun (W : World) (h : Below w.heap.size w W) => (hi.below h).more (lo' := 0) (hi' := W.heap.size) (Nat.le_refl _) h.size)
  have HTW := Lib.hid (fun (W : World) (h : Below w.heap.size w W) => And.intro (hT.below h (Nat.le_refl _)) (hS.below h (Nat.le_refl _)))
  have CR := Lib.hid (right_any (lst l) _ _ _ (HV.out _ HB0.out) (Nat.le_refl _) (HTW.out _ HB0.out).1)
  rw [hr] at CR
  have CS := Lib.hid (fun (W : World) (h : Below w.heap.size w W) => show Calls Tryd.prog 30 #[.slice A2 (m + 1) c2, .int .i64 k] W (fun e w' => e = .returned (.tuple #[.int .i64 4, .bool true]) ∧ Below W.heap.size W w') from by
    have := sumSize_any l A2 W.heap.size c2 k W (HI.out W h) (Nat.le_refl _) hk (by omega) hc2 (by omega) (by omega) (HTW.out W h).2
    rw [ht, hm] at this
    exact this)
  have j0 : (0 : Int) ≤ (k : Int) := by omega
  have j1 : (k : Int) < (m : Int) + 1 := by omega
  have d0 : decide ((k : Int) < 0) = false := decide_eq_false (by omega)
  have d1 : decide ((m : Int) + 1 ≤ (k : Int)) = false := decide_eq_false (by omega)
  have d2 : decide (m + 1 ≤ k) = false := decide_eq_false (by omega)
  have d3 : ¬ c2 = 0 := by omega
  have hc2' := hc2
  unfold maxLen at hc2'
  obtain ⟨b, o, A3, c3, A4, c4, rfl, hlb, hhb, e0, e1, e2, e3, -⟩ := hi.at_ (k := m) (by omega)
  generalize (l[m]).kind = zk at *
  generalize (l[m]).bs.length = zb at *
  have f1 : (zk == 2) = false := by simpa using hz2
  have f2 : (zk != 2) = true := by simp [bne, f1]
  generalize (l[m]).num = n3 at *
  generalize (l[m]).sub.length = n4 at *
  have KE := Lib.hid (fun (W : World) (hW : Below w.heap.size w W) => And.intro ((hW.cell (p := ⟨b, o + m * 4, none⟩) hhb).trans e0) (And.intro ((hW.cell (p := ⟨b, o + m * 4 + 1, none⟩) hhb).trans e1) (And.intro ((hW.cell (p := ⟨b, o + m * 4 + 2, none⟩) hhb).trans e2) ((hW.cell (p := ⟨b, o + m * 4 + 3, none⟩) hhb).trans e3))))
  clear e0 e1 e2 e3
  clear hv hT hS hE hd hse hsk hdk hr hi HV HI HTW ht hm
  go_enter Tryd.func11, Tryd.ntmps11
  go_wp2_with fail
  refine CR.out.mono ?_
  rintro e w1 ⟨rfl, hb1⟩
  have HB1 := Lib.hid (below_next HB0.out (by simp) hb1)
  have HK1 := Lib.hid (HK0.out.next hb1)
  obtain ⟨⟨x0, x1, x2, x3⟩, y0, y1, y2, y3⟩ := cells_item HK1.out
  clear hb1 CR HK0 HB0
  go_wp2_with fail
  refine (CS.out _ HB1.out).mono ?_
  rintro e w2 ⟨rfl, hb2⟩
  have HB2 := Lib.hid (below_next HB1.out HB1.out.size hb2)
  have HK2 := Lib.hid (HK1.out.next hb2)
  clear x0 x1 x2 x3 y0 y1 y2 y3 hb2 CS HK1 HB1
  obtain ⟨⟨x0, x1, x2, x3⟩, y0, y1, y2, y3⟩ := cells_item HK2.out
  obtain ⟨e0, e1, e2, e3⟩ := KE.out w2 HB2.out
  clear HK2 KE
  go_wp2_with fail
  go_ret2
  exact ⟨OpenO.err HE.out (by decide), HB2.out.alloc HB2.out.size _⟩

set_option maxRecDepth 100000 in
set_option maxHeartbeats 8000000 in
theorem open_size2 (l : List Itm) (A1 A2 : Option Addr) (c1 c2 k m : Nat) (w : World) (hm : l.length = m + 1) (h0 : c1 ≤ maxLen) (hi : ItemsV w 0 w.heap.size l A2) (hc : m + 1 ≤ c2) (hc2 : c2 ≤ maxLen) (hE : (encs l).length ≤ 900000000) (hd : deeps l ≤ 50000)
    (hT : Tabs w) (hS : Sz w) (hr : Cb.right (lst l) = true) (hk : k < l.length) (ht : typ l[k] = (2 : Nat)) (hz2 : (l[m]).kind = 2) (hz3 : ¬ (l[m]).bs.length = 4) :
    Calls Tryd.prog 11 #[.agg #[.int .i64 4, .int .u64 0, .slice A1 0 c1, .slice A2 (m + 1) c2], .int .i64 k] w fun e w' => OpenO w w' (lst l) k e ∧ Below w.heap.size w w' := by
  have hv : ItemV w 0 w.heap.size (lst l) (.agg #[.int .i64 4, .int .u64 0, .slice A1 0 c1, .slice A2 (m + 1) c2]) := by
    have h := ItemV.mk (k := 4) (n := 0) (b := []) (A := A1) (c := c1) ⟨by omega, by omega⟩ ⟨by omega, by omega⟩ (fun q hq => by simp at hq) (Nat.zero_le _) h0 .nil (c' := c2) (by omega) hc2 hi
    rw [hm] at h
    exact h
  have hse := sizes_enc l
  have hsk := size_at l k hk
  have hdk := deep_at l k hk
  have HE := Lib.hid (show openE (lst l) k = 3 from openE_last (q := 2) (by show typAt l k = _; rw [typAt_in l k hk, ht]) (last_no hm (by decide) (.inr hz3)))
  have HB0 := Lib.hid ((Below.refl w.heap.size w).alloc (Nat.le_refl _) (.cells #[.int .i64 4, .int .u64 0, .slice A1 0 c1, .slice A2 (m + 1) c2] 26))
  have HK0 := Lib.hid (Blk.new w 26 #[.int .i64 4, .int .u64 0, .slice A1 0 c1, .slice A2 (m + 1) c2])
  have HV := Lib.hid (fun (W : World) (h : Below w.heap.size w W) => (hv.below h).more (Nat.le_refl _) h.size)
  have HI := Lib.hid (fun (W : World) (h : Below w.heap.size w W) => (hi.below h).more (lo' := 0) (hi' := W.heap.size) (Nat.le_refl _) h.size)
  have HTW := Lib.hid (fun (W : World) (h : Below w.heap.size w W) => And.intro (hT.below h (Nat.le_refl _)) (hS.below h (Nat.le_refl _)))
  have CR := Lib.hid (right_any (lst l) _ _ _ (HV.out _ HB0.out) (Nat.le_refl _) (HTW.out _ HB0.out).1)
  rw [hr] at CR
  have CS := Lib.hid (fun (W : World) (h : Below w.heap.size w W) => show Calls Tryd.prog 30 #[.slice A2 (m + 1) c2, .int .i64 k] W (fun e w' => e = .returned (.tuple #[.int .i64 4, .bool true]) ∧ Below W.heap.size W w') from by
    have := sumSize_any l A2 W.heap.size c2 k W (HI.out W h) (Nat.le_refl _) hk (by omega) hc2 (by omega) (by omega) (HTW.out W h).2
    rw [ht, hm] at this
    exact this)
  have j0 : (0 : Int) ≤ (k : Int) := by omega
  have j1 : (k : Int) < (m : Int) + 1 := by omega
  have d0 : decide ((k : Int) < 0) = false := decide_eq_false (by omega)
  have d1 : decide ((m : Int) + 1 ≤ (k : Int)) = false := decide_eq_false (by omega)
  have d2 : decide (m + 1 ≤ k) = false := decide_eq_false (by omega)
  have d3 : ¬ c2 = 0 := by omega
  have hc2' := hc2
  unfold maxLen at hc2'
  obtain ⟨b, o, A3, c3, A4, c4, rfl, hlb, hhb, e0, e1, e2, e3, -⟩ := hi.at_ (k := m) (by omega)
  rw [hz2] at e0
  generalize (l[m]).bs.length = zb at *
  have hz4 : ¬ (zb : Int) = 4 := by omega
  have f1 : ((zb : Int) == 4) = false := by simpa using hz4
  have f2 : ((zb : Int) != 4) = true := by simp [bne, f1]
  generalize (l[m]).num = n3 at *
  generalize (l[m]).sub.length = n4 at *
  have KE := Lib.hid (fun (W : World) (hW : Below w.heap.size w W) => And.intro ((hW.cell (p := ⟨b, o + m * 4, none⟩) hhb).trans e0) (And.intro ((hW.cell (p := ⟨b, o + m * 4 + 1, none⟩) hhb).trans e1) (And.intro ((hW.cell (p := ⟨b, o + m * 4 + 2, none⟩) hhb).trans e2) ((hW.cell (p := ⟨b, o + m * 4 + 3, none⟩) hhb).trans e3))))
  clear e0 e1 e2 e3
  clear hv hT hS hE hd hse hsk hdk hr hi HV HI HTW ht hz2 hm
  go_enter Tryd.func11, Tryd.ntmps11
  go_wp2_with fail
  refine CR.out.mono ?_
  rintro e w1 ⟨rfl, hb1⟩
  have HB1 := Lib.hid (below_next HB0.out (by simp) hb1)
  have HK1 := Lib.hid (HK0.out.next hb1)
  obtain ⟨⟨x0, x1, x2, x3⟩, y0, y1, y2, y3⟩ := cells_item HK1.out
  clear hb1 CR HK0 HB0
  go_wp2_with fail
  refine (CS.out _ HB1.out).mono ?_
  rintro e w2 ⟨rfl, hb2⟩
  have HB2 := Lib.hid (below_next HB1.out HB1.out.size hb2)
  have HK2 := Lib.hid (HK1.out.next hb2)
  clear x0 x1 x2 x3 y0 y1 y2 y3 hb2 CS HK1 HB1
  obtain ⟨⟨x0, x1, x2, x3⟩, y0, y1, y2, y3⟩ := cells_item HK2.out
  obtain ⟨e0, e1, e2, e3⟩ := KE.out w2 HB2.out
  clear HK2 KE
  go_wp2_with fail
  go_ret2
  exact ⟨OpenO.err HE.out (by decide), HB2.out.alloc HB2.out.size _⟩

/-- A list that may be, with parts, is nothing but its parts. -/
theorem right_list {x : Itm} (h : Cb.right x = true) (hk : 0 < x.sub.length) : x = lst x.sub := by
  obtain ⟨k, n, b, l⟩ := x
  have hf := right_fine h
  rw [fine_sub] at hf
  have hf1 := (Bool.and_eq_true_iff.1 hf).1
  have hl : (l.length == 0) = false := by
    have : 0 < l.length := hk
    simp
    intro e
    subst e
    simp at this
  have hf2 : (if k = 0 then b.length == 0 && l.length == 0 else if k = 2 then n == 0 && l.length == 0 else if k = 3 then n == 0 && l.length == 0 && U8.utf8 b else if k = 4 then n == 0 && b.length == 0 else false) = true := hf1
  rw [hl] at hf2
  by_cases h0 : k = 0
  · simp [h0] at hf2
  by_cases h2 : k = 2
  · simp [h2] at hf2
  by_cases h3 : k = 3
  · simp [h3] at hf2
  by_cases h4 : k = 4
  · subst h4
    simp at hf2
    obtain ⟨rfl, rfl⟩ := hf2
    rfl
  · simp [h0, h2, h3, h4] at hf2
theorem open_any (x : Itm) (v : Value) (a : Int) (w : World) (hv : ItemV w 0 w.heap.size x v) (hE : (enc x).length ≤ 900000000) (hd : deep x ≤ 50000) (hT : Tabs w) (hS : Sz w) :
    Calls Tryd.prog 11 #[v, .int .i64 a] w fun e w' => OpenO w w' x a e ∧ Below w.heap.size w w' := by
  obtain ⟨A1, c1, A2, c2, rfl, r1, r2, r3, r4, r5, r6, r7, r8, r9⟩ := hv.open_
  cases hr : Cb.right x
  · exact open_wrong x A1 A2 c1 c2 a w hv hT hr
  by_cases ha : a < 0
  · exact open_lo x A1 A2 c1 c2 a w hv hT hr ha
  by_cases hb : (x.sub.length : Int) ≤ a
  · exact open_hi x A1 A2 c1 c2 a w hv hT hr ha hb
  obtain ⟨k, rfl⟩ := Int.eq_ofNat_of_zero_le (show 0 ≤ a by omega)
  have hx := right_list hr (by omega)
  obtain ⟨kk, nn, bb, l⟩ := x
  obtain ⟨rfl, rfl, rfl, -⟩ := (show kk = 4 ∧ nn = 0 ∧ bb = [] ∧ True by injection hx with h1 h2 h3 h4; exact ⟨h1, h2, h3, trivial⟩)
  simp only [Itm.sub, Itm.kind, Itm.num, Itm.bs] at *
  have hk : k < l.length := by omega
  obtain ⟨m, hm⟩ : ∃ m, l.length = m + 1 := ⟨l.length - 1, by omega⟩
  have hEl : (encs l).length ≤ 900000000 := by rw [enc_sub] at hE; simp only [List.length_append, Itm.sub] at hE; omega
  have hdl : deeps l ≤ 50000 := by rw [deep_sub] at hd; simp only [Itm.sub] at hd; omega
  have hr' := typ_range l[k]
  rw [hm] at hv r7 ⊢
  rcases (show typ l[k] = -1 ∨ typ l[k] = (0 : Nat) ∨ typ l[k] = (1 : Nat) ∨ typ l[k] = (2 : Nat) by omega) with ht | ht | ht | ht
  · exact open_form l A1 A2 c1 c2 k m w hm r5 r9 r7 r8 hEl hdl hT hS hr hk ht
  · exact open_yes0 l A1 A2 c1 c2 k m w hm r5 r9 r7 r8 hEl hdl hT hS hr hk ht
  · by_cases h2 : (l[m]).kind = 2
    · by_cases h3 : (l[m]).bs.length = 2
      · exact open_yes1 l A1 A2 c1 c2 k m w hm r5 r9 r7 r8 hEl hdl hT hS hr hk ht h2 h3
      · exact open_size1 l A1 A2 c1 c2 k m w hm r5 r9 r7 r8 hEl hdl hT hS hr hk ht h2 h3
    · exact open_kind1 l A1 A2 c1 c2 k m w hm r5 r9 r7 r8 hEl hdl hT hS hr hk ht h2
  · by_cases h2 : (l[m]).kind = 2
    · by_cases h3 : (l[m]).bs.length = 4
      · exact open_yes2 l A1 A2 c1 c2 k m w hm r5 r9 r7 r8 hEl hdl hT hS hr hk ht h2 h3
      · exact open_size2 l A1 A2 c1 c2 k m w hm r5 r9 r7 r8 hEl hdl hT hS hr hk ht h2 h3
    · exact open_kind2 l A1 A2 c1 c2 k m w hm r5 r9 r7 r8 hEl hdl hT hS hr hk ht h2
end Go.Proofs.YthknkdphofjmhaaDoor.Prim
