/- Texts of my own, laid together: CanP, FrameCan. -/
import Derived.Test.YthknkdphofjmhaaDoorPrimOk
import Derived.Test.YthknkdphofjmhaaDoorZgm
import Derived.Test.YthknkdphofjmhaaDoorZg9
import Derived.Test.YthknkdphofjmhaaDoorZgo
/- The other blocks of bundles, plain: what their data say, which may be, their items, there and back. -/
namespace Go.Proofs.YthknkdphofjmhaaDoor.Can
open Go.RowKit Wd Cb Eid EncB Prim

/-- A block. -/
structure Cbk where
  ty : Int
  no : Int
  fl : Int
  sm : Int
  dat : List Int
/-- Its bounds. -/
structure Cbk.ok (b : Cbk) : Prop where
  t0 : 0 ≤ b.ty
  t1 : b.ty ≤ 18446744073709551615
  n0 : 0 ≤ b.no
  n1 : b.no ≤ 18446744073709551615
  f0 : 0 ≤ b.fl
  f1 : b.fl ≤ 18446744073709551615
  s0 : -9223372036854775808 ≤ b.sm
  s1 : b.sm ≤ 9223372036854775807
  d : St.bts b.dat

/-- These bytes are an item's shortest ones. -/
def Says (xs : List Int) (x : Itm) : Prop := Cb.right x = true ∧ sane x ∧ enc x = xs
theorem says_det {xs m : List Int} {x y : Itm} (hl : xs.length + m.length ≤ 4294967295) (h : Says xs x) (h' : Says (xs ++ m) y) : x = y ∧ m = [] := by
  obtain ⟨r, s, rfl⟩ := h
  obtain ⟨r', s', e⟩ := h'
  have a := read_back x m r s (by omega)
  have b := read_back y [] r' s' (by rw [e, List.length_append]; omega)
  rw [List.append_nil, e] at b
  have c := read_det a b
  injection c with c1 c2 c3
  refine ⟨c1, ?_⟩
  rw [List.length_append] at c2
  exact List.eq_nil_of_length_eq_zero (by omega)
theorem says_one {xs : List Int} {x y : Itm} (hl : xs.length ≤ 4294967295) (h : Says xs x) (h' : Says xs y) : x = y :=
  (says_det (m := []) (by simpa using hl) h (by rw [List.append_nil]; exact h')).1
/-- Data of a name, of an age, of hops. -/
def NameD (xs : List Int) (n : Nm) : Prop := right n = true ∧ n.ok ∧ Says xs (itemOf n)
def AgeD (xs : List Int) (n : Int) : Prop := (0 ≤ n ∧ n ≤ 1099511627776) ∧ Says xs (iN n)
def HopsD (xs : List Int) (l c : Int) : Prop := (1 ≤ l ∧ l ≤ 255 ∧ 0 ≤ c ∧ c ≤ l) ∧ Says xs (iL (iN l) (iN c))
def DOk (ty : Int) (xs : List Int) : Prop := (ty = 6 → ∃ n, NameD xs n) ∧ (ty = 7 → ∃ n, AgeD xs n) ∧ (ty = 10 → ∃ l c, HopsD xs l c)
def fitF (n : Int) : Bool := bits .andNot .u64 n 23 == 0
def cfit (b : Cbk) : Bool := (decide (1 ≤ b.ty) && decide (b.ty ≤ 255)) && ((decide (1 ≤ b.no) && decide (b.no ≤ 255)) && (fitF b.fl && (decide (0 ≤ b.sm) && (decide (b.sm ≤ 2) && decide ((b.dat.length : Int) ≤ 200)))))
/-- May a block be? -/
def CRight (b : Cbk) : Prop := cfit b = true ∧ DOk b.ty b.dat
theorem cfit_all {b : Cbk} (h : cfit b = true) : (1 ≤ b.ty ∧ b.ty ≤ 255) ∧ (1 ≤ b.no ∧ b.no ≤ 255) ∧ fitF b.fl = true ∧ (0 ≤ b.sm ∧ b.sm ≤ 2) ∧ b.dat.length ≤ 200 := by
  unfold cfit at h
  simp only [Bool.and_eq_true, decide_eq_true_eq] at h
  obtain ⟨⟨h1, h2⟩, ⟨h3, h4⟩, h5, h6, h7, h8⟩ := h
  exact ⟨⟨h1, h2⟩, ⟨h3, h4⟩, h5, ⟨h6, h7⟩, by omega⟩
/-- Its items. -/
def citems (b : Cbk) : List Itm := [iN b.ty, iN b.no, iN b.fl, iN b.sm, .mk 2 0 b.dat []]
/-- What it is written as. -/
def cw (b : Cbk) : Itm := sealed (citems b) b.sm.toNat
/-- The only block that can have these items. -/
def cguess (l : List Itm) : Cbk := ⟨(find l 0).num, (find l 1).num, (find l 2).num, (find l 3).num, (find l 4).bs⟩
theorem cguess_items (b : Cbk) : cguess (citems b) = b := by cases b; rfl
theorem iB_len (xs : List Int) : (enc (.mk 2 0 xs [])).length ≤ 9 + xs.length := by
  have := Great.bytes_le 2 (cn (.mk 2 0 xs [])) false
  simp only [enc, encs, List.length_append, List.length_nil]
  omega
theorem citems_small (b : Cbk) (h : b.dat.length ≤ 400) : fines (citems b) = true ∧ sizes (citems b) = 5 ∧ deeps (citems b) = 1 ∧ (encs (citems b)).length ≤ 445 := by
  have n1 := iN_len b.ty
  have n2 := iN_len b.no
  have n3 := iN_len b.fl
  have n4 := iN_len b.sm
  have n5 := iB_len b.dat
  refine ⟨?_, ?_, ?_, ?_⟩
  · simp [citems, fines, iN_fine, fine, kindFit, Itm.kind, Itm.num, Itm.bs, Itm.sub]
  · simp [citems, sizes, size]
  · simp [citems, deeps, deep]
  · simp only [citems, encs, List.length_append, List.length_nil]
    omega
theorem citems_sane {b : Cbk} (h : b.ok) (h0 : 0 ≤ b.sm) : sanes (citems b) := by
  have k : ∀ n : Int, 0 ≤ n → n ≤ 18446744073709551615 → sane (iN n) := fun n h0 h1 => ⟨⟨h0, h1⟩, fun _ h => (by cases h), trivial⟩
  have := h.s1
  exact ⟨k _ h.t0 h.t1, k _ h.n0 h.n1, k _ h.f0 h.f1, k _ h0 (by omega), ⟨⟨by decide, by decide⟩, h.d, trivial⟩, trivial⟩
theorem ctyp {b : Cbk} (h : 0 ≤ b.sm ∧ b.sm ≤ 2) : typAt (citems b) 3 = b.sm := by
  unfold typAt
  rw [if_neg (by simp [citems])]
  exact typ_iN (by omega)
theorem cseal {b : Cbk} (h : 0 ≤ b.sm ∧ b.sm ≤ 2) (hd : b.dat.length ≤ 400) : sealE (citems b) 3 = 0 ∧ sealI (citems b) 3 = cw b := by
  obtain ⟨f, s, d, e⟩ := citems_small b hd
  have hr : Cb.right (Prim.blank (citems b) b.sm.toNat) = true := by
    unfold Prim.blank
    split
    · rw [right_lst, s, d, f]
      rfl
    · have e1 : sizes (citems b ++ [.mk 2 0 (zeros (2 * b.sm.toNat)) []]) = 6 := by rw [sizes_append, s]; rfl
      have e2 : deeps (citems b ++ [.mk 2 0 (zeros (2 * b.sm.toNat)) []]) = 1 := by rw [deeps_append, d]; rfl
      have e3 : fines (citems b ++ [.mk 2 0 (zeros (2 * b.sm.toNat)) []]) = true := by rw [fines_append, f]; simp [fines, fine, kindFit, Itm.kind, Itm.num, Itm.sub]
      rw [right_lst, e1, e2, e3]
      rfl
  have hE : sealE (citems b) 3 = 0 := by
    unfold sealE
    rw [if_neg (by simp [citems]), ctyp h, if_neg (by omega), if_pos hr]
  refine ⟨hE, ?_⟩
  unfold sealI
  rw [if_pos hE, ctyp h]
  rfl
/-- Are they a block's items, one way alone? -/
def crP (x : Itm) : Prop := openE x 3 = 0 ∧ (openL x 3).length = 5 ∧ CRight (cguess (openL x 3)) ∧ cw (cguess (openL x 3)) = x
/-- Blocks go there and back. -/
theorem c_back {b : Cbk} (h : CRight b) : crP (cw b) ∧ cguess (openL (cw b) 3) = b := by
  obtain ⟨h1, h2, h3, h4, h5⟩ := cfit_all h.1
  obtain ⟨s1, s2⟩ := cseal h4 (by omega)
  obtain ⟨o1, o2⟩ := open_sealed s1
  rw [s2] at o1 o2
  have hg : cguess (openL (cw b) 3) = b := by rw [o2, cguess_items]
  exact ⟨⟨o1, by rw [o2]; rfl, by rw [hg]; exact h, by rw [hg]⟩, hg⟩
theorem open_typ {x : Itm} (h : openE x 3 = 0) : (0 ≤ (find (openL x 3) 3).num ∧ (find (openL x 3) 3).num ≤ 1000) ∧ 3 < (openL x 3).length := by
  obtain ⟨h1, h2⟩ := open_seal h
  obtain ⟨⟨h3, h4⟩, h5, h6⟩ := sealE_zero h1
  have hk : 3 < (openL x 3).length := by omega
  have e := typAt_in (openL x 3) 3 hk
  rw [show ((3 : Nat) : Int) = 3 from rfl] at e
  rw [e] at h5
  have hf : find (openL x 3) 3 = (openL x 3)[3] := by unfold find; simp [List.getD, hk]
  refine ⟨?_, hk⟩
  rw [hf]
  generalize (openL x 3)[3] = z at *
  by_cases h7 : 3 ≤ z.num
  · rw [typ_big h7] at h5
    omega
  · cases hs : same z (iN z.num)
    · rw [typ_no hs] at h5
      omega
    · have hz := typ_num hs
      unfold typ at h5
      split at h5
      · rename_i h8
        rw [typ_num h8]
        exact ⟨by show (0 : Int) ≤ 0; omega, by show (0 : Int) ≤ 1000; omega⟩
      · split at h5
        · rename_i h8
          rw [typ_num h8]
          exact ⟨by show (0 : Int) ≤ 1; omega, by show (1 : Int) ≤ 1000; omega⟩
        · split at h5
          · rename_i h8
            rw [typ_num h8]
            exact ⟨by show (0 : Int) ≤ 2; omega, by show (2 : Int) ≤ 1000; omega⟩
          · omega
theorem find_at {l : List Itm} {k : Nat} (h : k < l.length) : find l k = l[k] := by unfold find; simp [List.getD, h]
/-- What a read item says as a name: there is one just if it may be. -/
theorem name_of {x : Itm} (hs : sane x) (hl : (enc x).length ≤ 1000000000) (h : rdOk x = true) : right (rdI x) = true ∧ (rdI x).ok ∧ itemOf (rdI x) = x := by
  have ho := rdI_sane hs hl
  have hr : rdI x = gI (x.sub.getD 1 (iN 0)) := by unfold rdI; rw [if_pos h]
  unfold rdOk at h
  simp only [Bool.and_eq_true] at h
  rw [← hr] at h
  exact ⟨h.2.1, ho, (same_iff _ _).1 h.2.2⟩
theorem itemOf_right (n : Nm) (h : right n = true) : Cb.right (itemOf n) = true := by
  unfold Cb.right
  rw [itemOf_fine n h, decide_eq_true (show size (itemOf n) ≤ 256 by have := itemOf_size n; omega), decide_eq_true (show deep (itemOf n) ≤ 6 by have := itemOf_size n; omega)]
  rfl
theorem iN_right (n : Int) : Cb.right (iN n) = true := by simp [Cb.right, size, sizes, deep, deeps, iN_fine]
theorem iL_right (l c : Int) : Cb.right (iL (iN l) (iN c)) = true := by simp [Cb.right, size, sizes, deep, deeps, fine, fines, kindFit, Itm.kind, Itm.num, Itm.bs, Itm.sub]
theorem iN_sane (n : Int) (h0 : 0 ≤ n) (h1 : n ≤ 18446744073709551615) : sane (iN n) := ⟨⟨h0, h1⟩, fun _ h => (by cases h), trivial⟩
theorem iL_sane (l c : Int) (h0 : 0 ≤ l) (h1 : l ≤ 18446744073709551615) (h2 : 0 ≤ c) (h3 : c ≤ 18446744073709551615) : sane (iL (iN l) (iN c)) := ⟨⟨by decide, by decide⟩, fun _ h => (by cases h), iN_sane l h0 h1, iN_sane c h2 h3, trivial⟩
end Go.Proofs.YthknkdphofjmhaaDoor.Can
/- The opener of a block that came in. -/
namespace Go.Proofs.YthknkdphofjmhaaDoor.Can
open Go.RowKit Wd

abbrev cval (b : Cbk) (A : Option Addr) (c : Nat) : Value := .agg #[.int .u64 b.ty, .int .u64 b.no, .int .u64 b.fl, .int .i64 b.sm, .slice A b.dat.length c]
end Go.Proofs.YthknkdphofjmhaaDoor.Can
namespace Go.Proofs.YthknkdphofjmhaaDoor.Fr
open Go.ChangeShapes Go.WideShapes Go.ChangeAt Go.RowKit Go.Joins Go.Deep Wd Can

section
variable {H : Type} {enc : TypeId × Value → H} {P : Program} {W : World}

/-- A block, by value. -/
theorem open_block {t tn ti ts te : TypeId} {f0 f1 f2 f3 f4 : Field} {base : Nat} {v : Value} {d : DataW H} {p : List MemPlace} (hs : P.underlying t = some (.struct #[f0, f1, f2, f3, f4])) (hone : oneCellFields P #[f0, f1, f2, f3, f4] = true) (hC : P.cellsOf t = 5)
    (e0 : f0.type = tn) (e1 : f1.type = tn) (e2 : f2.type = tn) (e3 : f3.type = ti) (e4 : f4.type = ts) (u0 : P.underlying tn = some (.int .u64)) (u1 : P.underlying ti = some (.int .i64)) (u2 : P.underlying ts = some (.slice te)) (u3 : P.underlying te = some (.int .u8)) (hc : P.cellsOf te = 1)
    (hval : Value.okWide P W .any base t v) (h : DataW.Trod enc P W 0 (fun _ => true) true t v d p) : ∃ (b : Cbk) (A : Option Addr) (c : Nat), v = cval b A c ∧ b.ok ∧ b.dat.length ≤ c ∧ c ≤ maxLen ∧ Lst W W.heap.size A (u8s b.dat) := by
  obtain ⟨cs, rfl, hsz⟩ := okWide_struct hs hval
  obtain ⟨c0, c1, c2, c3, c4, rfl⟩ := array5 (hsz.trans hC)
  obtain ⟨fuel, hf⟩ := h
  obtain ⟨y0, y1, y2, y3, y4, n, h0, h1, h2, h3, h4⟩ := trod_struct5 hs hf
  obtain ⟨o0, k0⟩ := hone_of hone 0 f0 rfl
  obtain ⟨o1, k1⟩ := hone_of hone 1 f1 rfl
  obtain ⟨o2, k2⟩ := hone_of hone 2 f2 rfl
  obtain ⟨o3, k3⟩ := hone_of hone 3 f3 rfl
  obtain ⟨o4, k4⟩ := hone_of hone 4 f4 rfl
  replace h0 : DataW.trod enc P W 0 (fun _ => true) true n f0.type [c0] = some y0 := by simpa [Value.cells, o0, k0] using h0
  replace h1 : DataW.trod enc P W 0 (fun _ => true) true n f1.type [c1] = some y1 := by simpa [Value.cells, o1, k1] using h1
  replace h2 : DataW.trod enc P W 0 (fun _ => true) true n f2.type [c2] = some y2 := by simpa [Value.cells, o2, k2] using h2
  replace h3 : DataW.trod enc P W 0 (fun _ => true) true n f3.type [c3] = some y3 := by simpa [Value.cells, o3, k3] using h3
  replace h4 : DataW.trod enc P W 0 (fun _ => true) true n f4.type [c4] = some y4 := by simpa [Value.cells, o4, k4] using h4
  rw [e0] at h0
  rw [e1] at h1
  rw [e2] at h2
  rw [e3] at h3
  rw [e4] at h4
  obtain ⟨a, r0, _, w0⟩ := DataW.trod_int u0 h0
  obtain ⟨b, r1, _, w1⟩ := DataW.trod_int u0 h1
  obtain ⟨c, r2, _, w2⟩ := DataW.trod_int u0 h2
  obtain ⟨s, r3, _, w3⟩ := DataW.trod_int u1 h3
  obtain ⟨A, cc, xs, r4, l4, m4, s4, b4⟩ := open_seg u2 u3 hc h4
  simp at r0 r1 r2 r3 r4
  subst r0 r1 r2 r3 r4
  have b0 := bounds_u64 w0
  have b1 := bounds_u64 w1
  have b2 := bounds_u64 w2
  have b3 := bounds_i64 w3
  exact ⟨⟨a, b, c, s, xs⟩, A, cc, rfl, ⟨b0.1, b0.2, b1.1, b1.2, b2.1, b2.2, b3.1, b3.2, b4⟩, l4, m4, s4⟩
end
end Go.Proofs.YthknkdphofjmhaaDoor.Fr
