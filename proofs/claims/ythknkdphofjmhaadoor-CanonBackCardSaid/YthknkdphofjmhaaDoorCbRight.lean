/- The contracts of cbor.rightKind, rightParts, Right. -/
import Derived.Test.YthknkdphofjmhaaDoorCbList
import Derived.Test.YthknkdphofjmhaaDoorU8V
import Derived.Test.YthknkdphofjmhaaDoorItemP
namespace Go.Proofs.YthknkdphofjmhaaDoor.CbRight
open Go.RowKit Wd Cb

/-- Go's tables of UTF-8 lie in this world. -/
def Tabs (w : World) : Prop := Lib.Utf8Tabs 1 2 w ∧ 1 < w.heap.size ∧ 2 < w.heap.size
theorem Tabs.below {w w' : World} {B : Nat} (h : Tabs w) (hb : Below B w w') (hB : w.heap.size ≤ B) : Tabs w' :=
  ⟨⟨fun c hc => (hb.cell (p := ⟨1, c, none⟩) (Nat.lt_of_lt_of_le h.2.1 hB)).trans (h.1.1 c hc),
    fun i hi => ⟨(hb.cell (p := ⟨2, 2 * i, none⟩) (Nat.lt_of_lt_of_le h.2.2 hB)).trans (h.1.2 i hi).1, (hb.cell (p := ⟨2, 2 * i + 1, none⟩) (Nat.lt_of_lt_of_le h.2.2 hB)).trans (h.1.2 i hi).2⟩⟩,
   Nat.lt_of_lt_of_le h.2.1 hb.size, Nat.lt_of_lt_of_le h.2.2 hb.size⟩
theorem Tabs.utf8 {w : World} (h : Tabs w) (A : Option Addr) (B c : Nat) (l : List Int) (hs : Lst w B A (u8s l)) (hB : B ≤ w.heap.size) (hb : St.bts l) (hc : l.length ≤ c) (hm : c ≤ maxLen) :
    Calls Tryd.prog 98 #[.slice A l.length c] w fun e w' => e = .returned (.bool (U8.utf8 l)) ∧ Below w.heap.size w w' :=
  U8V.valid_any A B c l w hs hB hb hc hm h.1 h.2.1 h.2.2

theorem natb (n : Nat) : ((n : Int) == 0) = (n == 0) := by rw [Bool.eq_iff_iff]; simp

/-- A box of four cells. -/
theorem box4 {w w1 : World} {x y z u : Value} {t : TypeId} (hb : Below (w.alloc (.cells #[x, y, z, u] t)).heap.size (w.alloc (.cells #[x, y, z, u] t)) w1) :
    Blk w1 w.heap.size t #[x, y, z, u] ∧ w.heap.size < w1.heap.size ∧ Below w.heap.size w w1 := by
  have hs := hb.size
  simp at hs
  exact ⟨(Blk.new w t _).next hb, by omega, ((Below.refl _ _).alloc (Nat.le_refl _) _).trans (hb.mono (by simp))⟩

set_option maxHeartbeats 1000000 in
theorem rightKind_any (x : Itm) (v : Value) (B : Nat) (w : World) (hv : ItemV w 0 B x v) (hB : B ≤ w.heap.size) (hT : Tabs w) :
    Calls Tryd.prog 86 #[v] w fun e w' => e = .returned (.bool (kindFit x)) ∧ Below w.heap.size w w' := by
  obtain ⟨A, c, A', c', rfl, hk, hn, hb, h1, h2, h3, h4, h5, h6⟩ := hv.open_
  have hb0 : Below w.heap.size w (w.alloc (.cells #[.int .i64 x.kind, .int .u64 x.num, .slice A x.bs.length c, .slice A' x.sub.length c'] 26)) := (Below.refl _ _).alloc (Nat.le_refl _) _
  have CU := Lib.hid ((hT.below hb0 (Nat.le_refl _)).utf8 A B c x.bs ((h3.more (Nat.le_refl _) (Nat.le_refl _)).lst.below' hb0 hB) (by simp; omega) hb h1 h2)
  unfold maxLen at h2 h5
  unfold kindFit
  generalize x.kind = k at *
  generalize x.num = n at *
  generalize x.bs = b at *
  generalize x.sub = l at *
  clear h3 h6 hT hv
  by_cases k0 : k = 0
  · subst k0
    clear CU
    go_enter Tryd.func86, Tryd.ntmps86
    go_wp2_with fail
    all_goals go_ret
    all_goals exact ⟨ret_bool (by first | (simp [*]; done) | exact natb _), (Below.refl _ _).alloc (Nat.le_refl _) _⟩
  by_cases k2 : k = 2
  · subst k2
    clear CU
    go_enter Tryd.func86, Tryd.ntmps86
    go_wp2_with fail
    all_goals go_ret
    all_goals exact ⟨ret_bool (by first | (simp [*]; done) | exact natb _), (Below.refl _ _).alloc (Nat.le_refl _) _⟩
  by_cases k3 : k = 3
  · subst k3
    by_cases q0 : n = 0
    · subst q0
      by_cases q1 : l.length = 0
      · have q1z : ((l.length : Int) == 0) = true := by simp only [beq_iff_eq]; omega
        have Q1 := Lib.hid q1
        clear q1
        go_enter Tryd.func86, Tryd.ntmps86
        go_wp2_with fail
        refine CU.out.mono ?_
        rintro e w1 ⟨rfl, hb1⟩
        have HB := Lib.hid (below_box (Below.refl w.heap.size w) (Nat.le_refl _) hb1)
        clear hb1
        go_wp2_with fail
        go_ret
        exact ⟨ret_bool (by simp [Q1.out]), HB.out⟩
      · have q1z : ((l.length : Int) == 0) = false := by simp only [beq_eq_false_iff_ne, ne_eq]; omega
        clear CU
        go_enter Tryd.func86, Tryd.ntmps86
        go_wp2_with fail
        all_goals go_ret
        all_goals exact ⟨ret_bool (by simp [*] at *), (Below.refl _ _).alloc (Nat.le_refl _) _⟩
    · have q0z : (n == 0) = false := by simpa using q0
      clear CU
      go_enter Tryd.func86, Tryd.ntmps86
      go_wp2_with fail
      all_goals go_ret
      all_goals exact ⟨ret_bool (by first | (simp [*]; done) | exact natb _), (Below.refl _ _).alloc (Nat.le_refl _) _⟩
  by_cases k4 : k = 4
  · subst k4
    clear CU
    go_enter Tryd.func86, Tryd.ntmps86
    go_wp2_with fail
    all_goals go_ret
    all_goals exact ⟨ret_bool (by first | (simp [*]; done) | exact natb _), (Below.refl _ _).alloc (Nat.le_refl _) _⟩
  · have d0 : (k == 0) = false := by simpa using k0
    have d2 : (k == 2) = false := by simpa using k2
    have d3 : (k == 3) = false := by simpa using k3
    have d4 : (k == 4) = false := by simpa using k4
    clear CU
    go_enter Tryd.func86, Tryd.ntmps86
    go_wp2_with fail
    all_goals go_ret
    all_goals exact ⟨ret_bool (by first | (simp [*]; done) | exact natb _), (Below.refl _ _).alloc (Nat.le_refl _) _⟩

set_option maxHeartbeats 1000000 in
theorem rightParts_any (N : Nat) : ∀ (x : Itm) (v : Value) (B : Nat) (w : World), deep x ≤ N → ItemV w 0 B x v → B ≤ w.heap.size → Tabs w →
    Calls Tryd.prog 66 #[v] w fun e w' => e = .returned (.bool (fine x)) ∧ Below w.heap.size w w' := by
  induction N with
  | zero => intro x v B w hN; have := deep_pos x; omega
  | succ N ih =>
    intro x v B w hN hv hB hT
    obtain ⟨A, c, A', c', rfl, hk, hn, hb, h1, h2, h3, h4, h5, h6⟩ := hv.open_
    have hb0 : Below w.heap.size w (w.alloc (.cells #[.int .i64 x.kind, .int .u64 x.num, .slice A x.bs.length c, .slice A' x.sub.length c'] 26)) := (Below.refl _ _).alloc (Nat.le_refl _) _
    have hbk : Blk (w.alloc (.cells #[.int .i64 x.kind, .int .u64 x.num, .slice A x.bs.length c, .slice A' x.sub.length c'] 26)) w.heap.size 26 #[.int .i64 x.kind, .int .u64 x.num, .slice A x.bs.length c, .slice A' x.sub.length c'] := Blk.new _ _ _
    have hx := fine_sub x
    have hdl : deeps x.sub ≤ N := by have := deep_sub x; omega
    have CK := Lib.hid (fun (W : World) (hW : Below w.heap.size w W) => rightKind_any x (.agg #[.int .i64 x.kind, .int .u64 x.num, .slice A x.bs.length c, .slice A' x.sub.length c']) B W (ItemV.of hk hn hb h1 h2 (h3.below (hW.mono hB)) h4 h5 (h6.below (hW.mono hB))) (by have := hW.size; omega) (hT.below hW (Nat.le_refl _)))
    unfold maxLen at h2 h5
    generalize x.kind = k at *
    generalize x.num = n at *
    generalize x.bs = b at *
    generalize x.sub = l at *
    have HX := Lib.hid hx
    have HI := Lib.hid h6
    have HB0 := Lib.hid hb0
    have HK0 := Lib.hid hbk
    have HT := Lib.hid hT
    clear hv hx h6 h3 hb0 hbk hT
    go_enter Tryd.func66, Tryd.ntmps66
    go_wp2_with fail
    go_loopw [8] (fun i wr => ∃ j : Nat, j ≤ l.length ∧ i = .int .i64 j ∧ fines (l.take j) = true ∧ w.heap.size < wr.heap.size ∧ Hid (Blk wr w.heap.size 26 #[.int .i64 k, .int .u64 n, .slice A b.length c, .slice A' l.length c']) ∧ Hid (Below w.heap.size w wr)) (fun i _ => l.length - (intOf i).toNat)
    case atStart => exact ⟨0, by omega, rfl, by simp [fines], by simp, HK0, HB0⟩
    case round =>
      obtain ⟨j, hj, rfl, hf, hsz, HKr, HWr⟩ := hrel
      have HF := Lib.hid hf
      clear HB0 HK0 hf
      by_cases hlt : j < l.length
      · obtain ⟨bb, o, A1, n1, A2, n2, rfl, _, hbl, e0, e1, e2, e3, q1, q2, q3, q4, q5, q6, q7, q8, q9⟩ := (HI.out.below (HWr.out.mono hB)).at_ hlt
        have hin := ItemV.of (lo := 0) (hi := B) q1 q2 q3 q4 q5 q6 q7 q8 q9
        have C1 := Lib.hid (fun (W : World) (hW : Below wr.heap.size wr W) => ih l[j] _ B W (by have := deep_at l j hlt; omega) (hin.below (hW.mono (by omega))) (by have := hW.size; omega) (HT.out.below (HWr.out.trans (hW.mono (by omega))) (Nat.le_refl _)))
        have hs := fines_snoc l j hlt
        have hno := fines_no l j hlt
        have HS := Lib.hid hs
        have HNO := Lib.hid hno
        clear hin hs hno q6 q9
        go_wp2_with fail
        refine (C1.out _ ((Below.refl _ _).alloc (Nat.le_refl _) _)).mono ?_
        rintro e w2 ⟨rfl, hb2⟩
        obtain ⟨_, hz2, hb3⟩ := box4 hb2
        have HW2 := Lib.hid (HWr.out.trans (hb3.mono (by omega)))
        have HK2 := Lib.hid (HKr.out.next hb3)
        clear hb2 hb3 e0 e1 e2 e3
        cases hfi : fine l[j]
        · have HE := Lib.hid (HNO.out hfi)
          clear hfi
          go_wp2_with fail
          go_ret
          exact ⟨ret_bool (by rw [HX.out, HE.out]; simp), HW2.out⟩
        · have HE : Hid (fines (l.take (j + 1)) = true) := Lib.hid (by rw [HS.out, HF.out, hfi]; rfl)
          clear hfi
          go_wp2_with fail
          go_roundw
          case rel => exact ⟨j + 1, by omega, by go_num, HE.out, by omega, HK2, HW2⟩
          case measure => simp [intOf]; omega
      · obtain rfl : j = l.length := by omega
        have hff := HF.out
        rw [take_all] at hff
        have HE : Hid (fine x = kindFit x) := Lib.hid (by rw [HX.out, hff]; simp)
        have c0 : wr.cell? ⟨w.heap.size, 0, none⟩ = some (.int .i64 k) := by simpa using HKr.out.cell 0
        have c1 : wr.cell? ⟨w.heap.size, 1, none⟩ = some (.int .u64 n) := by simpa using HKr.out.cell 1
        have c2 : wr.cell? ⟨w.heap.size, 2, none⟩ = some (.slice A b.length c) := by simpa using HKr.out.cell 2
        have c3 : wr.cell? ⟨w.heap.size, 3, none⟩ = some (.slice A' l.length c') := by simpa using HKr.out.cell 3
        clear hff
        go_wp2_with fail
        refine (CK.out _ HWr.out).mono ?_
        rintro e w2 ⟨rfl, hb2⟩
        have HW2 := Lib.hid (below_next HWr.out HWr.out.size hb2)
        clear hb2
        go_wp2_with fail
        go_ret
        exact ⟨ret_bool HE.out.symm, HW2.out⟩

set_option maxHeartbeats 1000000 in
theorem right_any (x : Itm) (v : Value) (B : Nat) (w : World) (hv : ItemV w 0 B x v) (hB : B ≤ w.heap.size) (hT : Tabs w) :
    Calls Tryd.prog 37 #[v] w fun e w' => e = .returned (.bool (right x)) ∧ Below w.heap.size w w' := by
  obtain ⟨A, c, A', c', rfl, hk, hn, hb, h1, h2, h3, h4, h5, h6⟩ := hv.open_
  have hb0 : Below w.heap.size w ((w.alloc (.cells #[.int .i64 x.kind, .int .u64 x.num, .slice A x.bs.length c, .slice A' x.sub.length c'] 26)).alloc (.cells #[.int .i64 255] 3)) := ((Below.refl _ _).alloc (Nat.le_refl _) _).alloc (by simp) _
  have hbk : Blk ((w.alloc (.cells #[.int .i64 x.kind, .int .u64 x.num, .slice A x.bs.length c, .slice A' x.sub.length c'] 26)).alloc (.cells #[.int .i64 255] 3)) w.heap.size 26 #[.int .i64 x.kind, .int .u64 x.num, .slice A x.bs.length c, .slice A' x.sub.length c'] := (Blk.new _ _ _).alloc _
  have hb1 : Blk ((w.alloc (.cells #[.int .i64 x.kind, .int .u64 x.num, .slice A x.bs.length c, .slice A' x.sub.length c'] 26)).alloc (.cells #[.int .i64 255] 3)) (w.heap.size + 1) 3 #[.int .i64 255] := by
    have := Blk.new (w.alloc (.cells #[.int .i64 x.kind, .int .u64 x.num, .slice A x.bs.length c, .slice A' x.sub.length c'] 26)) 3 #[.int .i64 255]
    rwa [World.size_alloc] at this
  have CP := Lib.hid (fun (W : World) (hW : Below w.heap.size w W) => rightParts_any (deep x) x (.agg #[.int .i64 x.kind, .int .u64 x.num, .slice A x.bs.length c, .slice A' x.sub.length c']) B W (Nat.le_refl _) (ItemV.of hk hn hb h1 h2 (h3.below (hW.mono hB)) h4 h5 (h6.below (hW.mono hB))) (by have := hW.size; omega) (hT.below hW (Nat.le_refl _)))
  have CW := Lib.hid (CbWithin.within_any (deeps x.sub) x.sub A' c' (w.heap.size + 1) 5 255 _ (Nat.le_refl _) ((h6.below (hb0.mono hB)).more (Nat.le_refl _) (by omega)) h4 h5 hb1 (by omega) (by omega) (by omega) (by omega))
  have hx : right x = (CbWithin.fits x.sub 5 255 && fine x) := by
    unfold right CbWithin.fits
    rw [size_sub, deep_sub, Bool.eq_iff_iff]
    simp only [Bool.and_eq_true, decide_eq_true_eq]
    constructor
    · rintro ⟨⟨h, h'⟩, h''⟩; exact ⟨by omega, h''⟩
    · rintro ⟨h, h''⟩; exact ⟨by omega, h''⟩
  have HX := Lib.hid hx
  have HB0 := Lib.hid hb0
  have HK0 := Lib.hid hbk
  clear hx hb0 hbk hb1 hv h3 h6 hT
  unfold maxLen at h2 h5
  generalize x.kind = k at *
  generalize x.num = n at *
  generalize x.bs = b at *
  generalize x.sub = l at *
  go_enter Tryd.func37, Tryd.ntmps37
  go_wp2_with fail
  refine CW.out.mono ?_
  rintro e w1 ⟨rfl, hb1, r, HBr, HFr⟩
  have HW1 := Lib.hid (HB0.out.trans (hb1.mono (by omega)))
  have hK1 := HK0.out.below hb1 (by omega)
  cases hf : CbWithin.fits l 5 255
  · have HE : Hid (right x = false) := Lib.hid (by rw [HX.out, hf]; rfl)
    clear hf hb1 CW HFr hK1
    go_wp2_with fail
    go_ret
    exact ⟨ret_bool HE.out.symm, HW1.out⟩
  · have HE : Hid (right x = fine x) := Lib.hid (by rw [HX.out, hf]; rfl)
    have c0 : w1.cell? ⟨w.heap.size, 0, none⟩ = some (.int .i64 k) := by simpa using hK1.cell 0
    have c1 : w1.cell? ⟨w.heap.size, 1, none⟩ = some (.int .u64 n) := by simpa using hK1.cell 1
    have c2 : w1.cell? ⟨w.heap.size, 2, none⟩ = some (.slice A b.length c) := by simpa using hK1.cell 2
    have c3 : w1.cell? ⟨w.heap.size, 3, none⟩ = some (.slice A' l.length c') := by simpa using hK1.cell 3
    clear hf hb1 CW HFr hK1
    go_wp2_with fail
    refine (CP.out _ HW1.out).mono ?_
    rintro e w2 ⟨rfl, hb2⟩
    have HW2 := Lib.hid (below_next HW1.out HW1.out.size hb2)
    clear hb2
    go_wp2_with fail
    go_ret
    exact ⟨ret_bool HE.out.symm, HW2.out⟩
end Go.Proofs.YthknkdphofjmhaaDoor.CbRight
