/- What is guessed is within bounds: plain. -/
import Derived.Test.YthknkdphofjmhaaDoorPrimG
import Derived.Test.YthknkdphofjmhaaDoorZgd
namespace Go.Proofs.YthknkdphofjmhaaDoor.Prim
open Go.RowKit Wd Cb Eid EncB

theorem sane_at : ∀ {l : List Itm} (k : Nat) (h : k < l.length), sanes l → sane l[k]
  | x :: l, 0, _, hs => hs.1
  | x :: l, k + 1, h, hs => sane_at (l := l) k (by simpa using h) hs.2
theorem sane_zero : sane (iN 0) := sane_num' 0 (by omega) (by omega)
where sane_num' (n : Int) (h0 : 0 ≤ n) (h1 : n ≤ 18446744073709551615) : sane (iN n) := ⟨⟨h0, h1⟩, fun _ h => (by cases h), trivial⟩
theorem sane_get (l : List Itm) (k : Nat) (hs : sanes l) : sane (l.getD k (iN 0)) := by
  by_cases h : k < l.length
  · rw [show l.getD k (iN 0) = l[k] by simp [List.getD, h]]
    exact sane_at k h hs
  · rw [show l.getD k (iN 0) = iN 0 by simp [List.getD, List.getElem?_eq_none (show l.length ≤ k by omega)]]
    exact sane_zero
theorem sane_sub {x : Itm} (h : sane x) : sanes x.sub := by
  cases x
  exact h.2.2
theorem sane_nm {x : Itm} (h : sane x) : 0 ≤ x.num ∧ x.num ≤ 18446744073709551615 := by
  cases x
  exact h.1
theorem enc_get (l : List Itm) (k : Nat) : (enc (l.getD k (iN 0))).length ≤ (encs l).length + 9 := (find_len l k).1
theorem enc_bs (x : Itm) : x.bs.length ≤ (enc x).length ∧ (encs x.sub).length ≤ (enc x).length := by
  rw [enc_sub]
  simp only [List.length_append]
  omega
theorem rdI_sane {x : Itm} (hs : sane x) (hl : (enc x).length ≤ 1000000000) : (rdI x).ok := by
  unfold rdI
  split
  · have h1 := sane_get x.sub 1 (sane_sub hs)
    refine gI_ok _ (fun k h => sane_nm (sane_at k h (sane_sub h1))) ?_
    have h2 := enc_get x.sub 1
    have h3 := enc_bs x
    have h4 := enc_bs (x.sub.getD 1 (iN 0))
    unfold maxLen
    omega
  · exact zero_ok
theorem irI_sane {x y : Itm} (hx : sane x) (hy : sane y) (hl : (enc x).length ≤ 1000000000) : (irI (iL x y)).ok := by
  unfold irI
  split
  · have h0 := sane_nm (sane_get y.sub 0 (sane_sub hy))
    have h1 := sane_nm (sane_get y.sub 1 (sane_sub hy))
    exact ⟨rdI_sane hx hl, h0.1, h0.2, h1.1, h1.2⟩
  · exact zeroId_ok
theorem pguess_ok (l : List Itm) (hs : sanes l) (hE : (encs l).length ≤ 900000000) (h2 : 0 ≤ (find l 2).num ∧ (find l 2).num ≤ 1000) : (pguess l).ok := by
  have f := fun k => sane_get l k hs
  have e := fun k => enc_get l k
  refine ⟨(sane_nm (f 1)).1, (sane_nm (f 1)).2, by show _ ≤ (find l 2).num; omega, by show (find l 2).num ≤ _; omega, rdI_sane (f 3) ?_, rdI_sane (f 5) ?_, irI_sane (f 4) (f 6) ?_, (sane_nm (f 7)).1, (sane_nm (f 7)).2⟩
  · exact Nat.le_trans (e 3) (by omega)
  · exact Nat.le_trans (e 5) (by omega)
  · exact Nat.le_trans (e 4) (by omega)
/-- What is opened is sealed as it was. -/
theorem open_seal {x : Itm} {a : Int} (h : openE x a = 0) : sealE (openL x a) a = 0 ∧ sealI (openL x a) a = x := by
  have hl : openL x a = x.sub.take (cutN x (typAt x.sub a).toNat) := by unfold openL; rw [if_pos h]
  rw [hl]
  unfold openE at h
  split at h
  · rename_i hc
    split at h
    · rename_i hs
      have he := (same_iff _ _).1 hs
      refine ⟨?_, he⟩
      by_cases hz : sealE (x.sub.take (cutN x (typAt x.sub a).toNat)) a = 0
      · exact hz
      · unfold sealI at he
        rw [if_neg hz] at he
        rw [← he] at hc
        simp [typAt, Itm.sub] at hc
        omega
    · omega
  · omega
theorem open_two {x : Itm} (h : openE x 2 = 0) : 0 ≤ (find (openL x 2) 2).num ∧ (find (openL x 2) 2).num ≤ 1000 := by
  obtain ⟨h1, h2⟩ := open_seal h
  obtain ⟨⟨h3, h4⟩, h5, h6⟩ := sealE_zero h1
  have hk : 2 < (openL x 2).length := by omega
  have e := typAt_in (openL x 2) 2 hk
  rw [show ((2 : Nat) : Int) = 2 from rfl] at e
  rw [e] at h5
  have hf : find (openL x 2) 2 = (openL x 2)[2] := by unfold find; simp [List.getD, hk]
  rw [hf]
  generalize (openL x 2)[2] = z at *
  by_cases h7 : 3 ≤ z.num
  · rw [typ_big h7] at h5
    omega
  · cases hs : same z (iN z.num)
    · rw [typ_no hs] at h5
      omega
    · have hz := typ_num hs
      unfold typ at h5
      split at h5
      · rename_i h8
        rw [typ_num h8]
        exact ⟨by show (0 : Int) ≤ 0; omega, by show (0 : Int) ≤ 1000; omega⟩
      · split at h5
        · rename_i h8
          rw [typ_num h8]
          exact ⟨by show (0 : Int) ≤ 1; omega, by show (1 : Int) ≤ 1000; omega⟩
        · split at h5
          · rename_i h8
            rw [typ_num h8]
            exact ⟨by show (0 : Int) ≤ 2; omega, by show (2 : Int) ≤ 1000; omega⟩
          · omega
theorem openL_le (x : Itm) (a : Int) : (encs (openL x a)).length ≤ (enc x).length ∧ deeps (openL x a) ≤ deep x := by
  unfold openL
  split
  · have h1 := encs_take_le x.sub (cutN x (typAt x.sub a).toNat)
    have h2 := enc_bs x
    have h3 := deeps_take_le x.sub (cutN x (typAt x.sub a).toNat)
    have h4 := deep_sub x
    omega
  · simp [encs, deeps]
theorem openL_sane {x : Itm} (h : sane x) (a : Int) : sanes (openL x a) := by
  unfold openL
  split
  · generalize cutN x (typAt x.sub a).toNat = n
    have := sane_sub h
    generalize x.sub = l at *
    induction n generalizing l with
    | zero => simp only [List.take_zero]; exact trivial
    | succ n ih =>
      cases l with
      | nil => simp only [List.take_nil]; exact trivial
      | cons y l => exact ⟨this.1, ih l this.2⟩
  · exact trivial
theorem prE_cases (x : Itm) : prE x = 0 ∨ prE x = 3 ∨ prE x = 10 := by
  unfold prE openE
  (repeat' split) <;> simp_all
end Go.Proofs.YthknkdphofjmhaaDoor.Prim
