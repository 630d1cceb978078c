/- The first block, plain: its items, there and back; what is sealed is opened. -/
import Derived.Test.YthknkdphofjmhaaDoorZga
import Derived.Test.YthknkdphofjmhaaDoorGreat
import Derived.Test.YthknkdphofjmhaaDoorZg9
namespace Go.Proofs.YthknkdphofjmhaaDoor.Prim
open Go.RowKit Wd Cb Eid EncB

/-- A first block. -/
structure Prm where
  flags : Int
  sum : Int
  dest : Nm
  report : Nm
  id : Eid.Id
  life : Int
/-- Its bounds. -/
structure Prm.ok (p : Prm) : Prop where
  f0 : 0 ≤ p.flags
  f1 : p.flags ≤ 18446744073709551615
  s0 : -9223372036854775808 ≤ p.sum
  s1 : p.sum ≤ 9223372036854775807
  d : p.dest.ok
  r : p.report.ok
  i : p.id.ok
  l0 : 0 ≤ p.life
  l1 : p.life ≤ 18446744073709551615
abbrev zeroPrm : Prm := ⟨0, 0, zeroNm, zeroNm, zeroId, 0⟩
theorem zeroPrm_ok : zeroPrm.ok := ⟨by decide, by decide, by decide, by decide, zero_ok, zero_ok, zeroId_ok, by decide, by decide⟩
/-- Flags that may be. -/
def fok (n : Int) : Bool := bits .andNot .u64 n 409638 == 0
/-- May a block be? -/
def pright (p : Prm) : Bool := fok p.flags && (decide (0 ≤ p.sum) && (decide (p.sum < 3) && (right p.dest && (right p.report && (iright p.id && decide (p.life ≤ 1099511627776))))))
theorem pright_all {p : Prm} (h : pright p = true) : fok p.flags = true ∧ (0 ≤ p.sum ∧ p.sum < 3) ∧ right p.dest = true ∧ right p.report = true ∧ iright p.id = true ∧ p.life ≤ 1099511627776 := by
  unfold pright at h
  simp only [Bool.and_eq_true, decide_eq_true_eq] at h
  obtain ⟨h1, h2, h3, h4, h5, h6, h7⟩ := h
  exact ⟨h1, ⟨h2, h3⟩, h4, h5, h6, h7⟩
/-- Its items. -/
def pitems (p : Prm) : List Itm := [iN 7, iN p.flags, iN p.sum, itemOf p.dest, itemOf p.id.src, itemOf p.report, iL (iN p.id.time) (iN p.id.seq), iN p.life]
/-- What it is written as. -/
def pw (p : Prm) : Itm := sealed (pitems p) p.sum.toNat
def find (l : List Itm) (k : Nat) : Itm := l.getD k (iN 0)
/-- The only block that can have these items. -/
def pguess (l : List Itm) : Prm := ⟨(find l 1).num, (find l 2).num, rdI (find l 3), rdI (find l 5), irI (iL (find l 4) (find l 6)), (find l 7).num⟩
def prE (x : Itm) : Int := if openE x 2 = 0 then (if pright (pguess (openL x 2)) && same (pw (pguess (openL x 2))) x then 0 else 3) else openE x 2
def prI (x : Itm) : Prm := if prE x = 0 then pguess (openL x 2) else zeroPrm

theorem utf8_ascii (l : List Int) (h : ∀ c ∈ l, c < 128) : U8.utf8 l = true := by
  rw [U8.utf8_skip l.length l (fun j hj => by
    rw [show l.getD j 0 = l[j] by simp [List.getD, hj]]
    exact h _ (List.getElem_mem hj)), List.drop_length]
  rfl
theorem okc_low {more : ByteArray} {c : UInt8} (h : okc more c.toNat = true) : (c.toNat : Int) < 128 := by
  by_cases h1 : (c.toNat : Int) < 128
  · exact h1
  · rw [okc_high more _ (by omega)] at h
    cases h
theorem itemOf_fine (x : Nm) (hr : right x = true) : fine (itemOf x) = true := by
  rcases kd_cases x with h | h | h
  · unfold itemOf
    rw [if_pos h]
    rfl
  · unfold itemOf
    rw [if_neg (by rw [h]; decide), if_pos h]
    rfl
  · obtain ⟨e, h1, h2, h3⟩ := right_two x hr h
    unfold itemOf
    rw [if_neg (by rw [h]; decide), if_neg (by rw [h]; decide)]
    have hu : U8.utf8 (CbCopy.nums (pathOf x.host x.demux)) = true := utf8_ascii _ (fun c hc => by
      unfold CbCopy.nums at hc
      rw [path_list, List.mem_map] at hc
      obtain ⟨b, hb, rfl⟩ := hc
      simp only [List.mem_append, List.mem_cons, List.not_mem_nil, or_false] at hb
      rcases hb with (rfl | rfl) | hb | rfl | hb
      · decide
      · decide
      · exact okc_low (mk_all h2 _ hb)
      · decide
      · exact okc_low (mk_all h3 _ hb))
    simp [fine, fines, kindFit, Itm.kind, Itm.num, Itm.bs, Itm.sub, hu]
theorem itemOf_len (x : Nm) (hr : right x = true) : (enc (itemOf x)).length ≤ 3000 := by
  rcases kd_cases x with h | h | h
  · unfold itemOf
    rw [if_pos h]
    decide
  · unfold itemOf
    rw [if_neg (by rw [h]; decide), if_pos h]
    simp only [enc, encs, List.length_append, List.length_nil]
    have a1 := Great.bytes_le 4 (cn (iL (iN 2) (iL (iN x.node) (iN x.service)))) false
    have a2 := Great.bytes_le 0 (cn (iN 2)) false
    have a3 := Great.bytes_le 4 (cn (iL (iN x.node) (iN x.service))) false
    have a4 := Great.bytes_le 0 (cn (iN x.node)) false
    have a5 := Great.bytes_le 0 (cn (iN x.service)) false
    simp only [iN, iL] at *
    omega
  · have hh := right_texts x hr (by rw [h]; decide) (by rw [h]; decide)
    unfold itemOf
    rw [if_neg (by rw [h]; decide), if_neg (by rw [h]; decide)]
    simp only [enc, encs, List.length_append, List.length_nil, CbCopy.nums_length, path_size]
    have a1 := Great.bytes_le 4 (cn (iL (iN 1) (.mk 3 0 (CbCopy.nums (pathOf x.host x.demux)) []))) false
    have a2 := Great.bytes_le 0 (cn (iN 1)) false
    have a3 := Great.bytes_le 3 (cn (.mk 3 0 (CbCopy.nums (pathOf x.host x.demux)) [])) false
    simp only [iN, iL] at *
    omega
theorem iN_len (n : Int) : (enc (iN n)).length ≤ 9 := by
  have := Great.bytes_le 0 (cn (iN n)) false
  simp only [enc, encs, List.length_append, List.length_nil]
  simp only [iN] at *
  omega
theorem iL_len (x y : Itm) : (enc (iL x y)).length ≤ 9 + (enc x).length + (enc y).length := by
  have := Great.bytes_le 4 (cn (iL x y)) false
  simp only [enc, encs, List.length_append, List.length_nil]
  simp only [iL] at *
  omega
theorem iN_fine (n : Int) : fine (iN n) = true := by simp [fine, fines, kindFit, Itm.kind, Itm.num, Itm.bs, Itm.sub]
theorem pitems_small {p : Prm} (h : pright p = true) : fines (pitems p) = true ∧ sizes (pitems p) ≤ 25 ∧ deeps (pitems p) ≤ 3 ∧ (encs (pitems p)).length ≤ 9100 := by
  obtain ⟨h1, h2, h3, h4, h5, h6⟩ := pright_all h
  have hs : right p.id.src = true := by unfold iright at h5; simp at h5; exact h5.1
  have f3 := itemOf_fine p.dest h3
  have f4 := itemOf_fine p.report h4
  have f5 := itemOf_fine p.id.src hs
  have s3 := itemOf_size p.dest
  have s4 := itemOf_size p.report
  have s5 := itemOf_size p.id.src
  have l3 := itemOf_len p.dest h3
  have l4 := itemOf_len p.report h4
  have l5 := itemOf_len p.id.src hs
  have n1 := iN_len 7
  have n2 := iN_len p.flags
  have n3 := iN_len p.sum
  have n4 := iN_len p.life
  have n5 := iL_len (iN p.id.time) (iN p.id.seq)
  have n6 := iN_len p.id.time
  have n7 := iN_len p.id.seq
  have z : fine (iL (iN p.id.time) (iN p.id.seq)) = true := by simp [fine, fines, kindFit, Itm.kind, Itm.num, Itm.bs, Itm.sub]
  refine ⟨?_, ?_, ?_, ?_⟩
  · simp only [pitems, fines, f3, f4, f5, z, iN_fine, Bool.and_self]
  · simp only [pitems, sizes, size]
    omega
  · simp only [pitems, deeps, deep]
    omega
  · simp only [pitems, encs, List.length_append, List.length_nil]
    omega
theorem wide_enc : ∀ x : Itm, CbList.wide x ≤ (enc x).length
  | .mk k n b l => by
    have h1 := wides_enc l
    simp only [CbList.wide, enc, List.length_append]
    omega
where
  wides_enc : ∀ l : List Itm, CbList.wides l ≤ (encs l).length
    | [] => by simp [CbList.wides]
    | x :: l => by
      have h1 := wide_enc x
      have h2 := wides_enc l
      simp only [CbList.wides, encs, List.length_append]
      omega
theorem wides_enc (l : List Itm) : CbList.wides l ≤ (encs l).length := wide_enc.wides_enc l
theorem size_enc : ∀ x : Itm, size x ≤ (enc x).length
  | .mk k n b l => by
    have h1 := sizes_enc l
    simp only [size, enc, List.length_append, HeadP.bytes, List.length_cons]
    omega
where
  sizes_enc : ∀ l : List Itm, sizes l ≤ (encs l).length
    | [] => by simp [sizes]
    | x :: l => by
      have h1 := size_enc x
      have h2 := sizes_enc l
      simp only [sizes, encs, List.length_append]
      omega
theorem sizes_enc (l : List Itm) : sizes l ≤ (encs l).length := size_enc.sizes_enc l

/-- Bytes behind items: whatever these are, it may be or not alike. -/
theorem right_with (l : List Itm) (b c : List Int) : Cb.right (withB l b) = Cb.right (withB l c) := by
  simp only [Cb.right, size, deep, sizes_append, deeps_append, sizes, deeps, fine_sub, Itm.sub, fines_append, fines, kindFit, Itm.kind, Itm.num, Itm.bs]
  simp
theorem right_sealed (l : List Itm) (k : Nat) : Cb.right (sealed l k) = Cb.right (blank l k) := by
  unfold sealed blank
  split
  · rfl
  · exact right_with l _ _
theorem typ_range (z : Itm) : -1 ≤ typ z ∧ typ z ≤ 2 := by
  unfold typ
  (repeat' split) <;> omega
theorem typAt_range (l : List Itm) (a : Int) : -1 ≤ typAt l a ∧ typAt l a ≤ 2 := by
  unfold typAt
  split
  · omega
  · exact typ_range _
theorem sealE_cases (l : List Itm) (a : Int) : sealE l a = 0 ∨ sealE l a = 1 ∨ sealE l a = 3 := by
  unfold sealE
  (repeat' split) <;> simp
theorem sealE_zero {l : List Itm} {a : Int} (h : sealE l a = 0) : (0 ≤ a ∧ a < l.length) ∧ 0 ≤ typAt l a ∧ Cb.right (blank l (typAt l a).toNat) = true := by
  unfold sealE at h
  split at h
  · omega
  · split at h
    · omega
    · split at h
      · exact ⟨by omega, by omega, ‹_›⟩
      · omega
theorem sealed_sub (l : List Itm) (k : Nat) : (sealed l k).sub = if k = 0 then l else l ++ [.mk 2 0 (sumB k (enc (blank l k))) []] := by
  unfold sealed
  split <;> rfl
theorem typAt_more (l m : List Itm) (a : Int) (h : a < l.length) : typAt (l ++ m) a = typAt l a := by
  unfold typAt
  by_cases h0 : a < 0
  · rw [if_pos (.inl h0), if_pos (.inl h0)]
  · rw [if_neg (by simp; omega), if_neg (by omega)]
    congr 1
    simp only [List.getD]
    rw [List.getElem?_append_left (by omega)]
/-- What is sealed is opened. -/
theorem open_sealed {l : List Itm} {a : Int} (h : sealE l a = 0) : openE (sealI l a) a = 0 ∧ openL (sealI l a) a = l := by
  obtain ⟨⟨h0, h1⟩, h2, h3⟩ := sealE_zero h
  have hI : sealI l a = sealed l (typAt l a).toNat := by unfold sealI; rw [if_pos h]
  have hty : typAt (sealed l (typAt l a).toNat).sub a = typAt l a := by
    rw [sealed_sub]
    split
    · rfl
    · exact typAt_more _ _ _ h1
  have hcut : (sealed l (typAt l a).toNat).sub.take (cutN (sealed l (typAt l a).toNat) (typAt l a).toNat) = l := by
    unfold cutN
    rw [sealed_sub]
    split
    · exact List.take_length
    · simp
  have hlast : lastOk (sealed l (typAt l a).toNat) (typAt l a).toNat = true := by
    unfold lastOk
    rw [sealed_sub]
    by_cases hz : (typAt l a).toNat = 0
    · simp [hz]
    · rw [if_neg hz]
      simp [Itm.kind, Itm.bs, sumB_length]
  have hE : openE (sealI l a) a = 0 := by
    unfold openE
    rw [hI, hty, hlast, right_sealed, h3, hcut, hI, same_self]
    simp [h2]
  refine ⟨hE, ?_⟩
  unfold openL
  rw [if_pos hE, hI, hty, hcut]
theorem typ_iN {n : Int} (h : 0 ≤ n ∧ n < 3) : typ (iN n) = n := by
  rcases (show n = 0 ∨ n = 1 ∨ n = 2 by omega) with rfl | rfl | rfl
  · exact typ_0
  · exact typ_1
  · exact typ_2
theorem right_lst (l : List Itm) : Cb.right (lst l) = (decide (1 + sizes l ≤ 256) && decide (1 + deeps l ≤ 6) && fines l) := by
  have e3 : fine (lst l) = fines l := by simp [fine, kindFit, Itm.kind, Itm.num, Itm.bs]
  unfold Cb.right
  rw [show size (lst l) = 1 + sizes l from rfl, show deep (lst l) = 1 + deeps l from rfl, e3]
theorem ptyp {p : Prm} (h : pright p = true) : typAt (pitems p) 2 = p.sum := by
  obtain ⟨h1, h2, _⟩ := pright_all h
  unfold typAt
  rw [if_neg (by simp [pitems])]
  exact typ_iN h2
theorem pseal {p : Prm} (h : pright p = true) : sealE (pitems p) 2 = 0 ∧ sealI (pitems p) 2 = pw p := by
  obtain ⟨h1, h2, h3⟩ := pright_all h
  obtain ⟨f, s, d, e⟩ := pitems_small h
  have hr : Cb.right (blank (pitems p) p.sum.toNat) = true := by
    unfold blank
    split
    · rw [right_lst, decide_eq_true (show 1 + sizes (pitems p) ≤ 256 by omega), decide_eq_true (show 1 + deeps (pitems p) ≤ 6 by omega), f]
      rfl
    · have e1 : sizes (pitems p ++ [.mk 2 0 (zeros (2 * p.sum.toNat)) []]) = sizes (pitems p) + 1 := by rw [sizes_append]; rfl
      have e2 : deeps (pitems p ++ [.mk 2 0 (zeros (2 * p.sum.toNat)) []]) = max (deeps (pitems p)) 1 := by rw [deeps_append]; rfl
      have e3 : fines (pitems p ++ [.mk 2 0 (zeros (2 * p.sum.toNat)) []]) = true := by rw [fines_append, f]; simp [fines, fine, kindFit, Itm.kind, Itm.num, Itm.sub]
      rw [right_lst, e1, e2, e3, decide_eq_true (show 1 + (sizes (pitems p) + 1) ≤ 256 by omega), decide_eq_true (show 1 + max (deeps (pitems p)) 1 ≤ 6 by omega)]
      rfl
  have hE : sealE (pitems p) 2 = 0 := by
    unfold sealE
    rw [if_neg (by simp [pitems]), ptyp h, if_neg (by omega), if_pos hr]
  refine ⟨hE, ?_⟩
  unfold sealI
  rw [if_pos hE, ptyp h]
  rfl
theorem pguess_items {p : Prm} (h : pright p = true) : pguess (pitems p) = p := by
  obtain ⟨h1, h2, h3, h4, h5, h6⟩ := pright_all h
  obtain ⟨a, b, c, d, e, f⟩ := p
  have e1 := (item_name c h3).2
  have e2 := (item_name d h4).2
  have e3 : irI (iL (itemOf e.src) (iL (iN e.time) (iN e.seq))) = e := (ir_item e h5).2
  simp [pguess, pitems, find, e1, e2, e3, Itm.num]
/-- Blocks go there and back. -/
theorem pr_back {p : Prm} (h : pright p = true) : prE (pw p) = 0 ∧ prI (pw p) = p := by
  obtain ⟨s1, s2⟩ := pseal h
  obtain ⟨o1, o2⟩ := open_sealed s1
  rw [s2] at o1 o2
  have hE : prE (pw p) = 0 := by
    unfold prE
    rw [if_pos o1, o2, pguess_items h, h, same_self]
    rfl
  refine ⟨hE, ?_⟩
  unfold prI
  rw [if_pos hE, o2, pguess_items h]
theorem pr_way {x : Itm} (h : prE x = 0) : pright (prI x) = true ∧ pw (prI x) = x := by
  have h' := h
  unfold prE at h
  unfold prI
  rw [if_pos h']
  split at h
  · split at h
    · rename_i _ hh
      rw [Bool.and_eq_true] at hh
      exact ⟨hh.1, (same_iff _ _).1 hh.2⟩
    · omega
  · omega
end Go.Proofs.YthknkdphofjmhaaDoor.Prim
