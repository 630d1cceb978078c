/- Texts of my own, laid together: EidRead, EidBackQ. -/
import Derived.Test.YthknkdphofjmhaaDoorZg3
import Derived.Test.YthknkdphofjmhaaDoorEidW
import Derived.Test.YthknkdphofjmhaaDoorCbSame
import Derived.BigRegion
/- The contracts of eid.guessItem, Read. -/
namespace Go.Proofs.YthknkdphofjmhaaDoor.Eid
open Go.RowKit Wd Cb

/-- The only name that can have this second item. -/
def gI (z : Itm) : Nm := if z.sub.length = 2 then ⟨true, (z.sub.getD 0 (iN 0)).num, (z.sub.getD 1 (iN 0)).num, ⟨#[]⟩, ⟨#[]⟩⟩ else gT (strOfNums z.bs).data.toList

set_option maxRecDepth 100000 in
set_option maxHeartbeats 2000000 in
theorem guessItem_all (z : Itm) (v : Value) (w : World) (hv : ItemV w 0 w.heap.size z v) : Calls Tryd.prog 92 #[v] w fun e w' => e = .returned (gI z).val ∧ Below w.heap.size w w' := by
  obtain ⟨A, c, A', c', rfl, hk, hn, hb, h1, h2, h3, h4, h5, h6⟩ := hv.open_
  have HB := Lib.hid (((Below.refl w.heap.size w).alloc (Nat.le_refl _) (.cells #[.int .i64 z.kind, .int .u64 z.num, .slice A z.bs.length c, .slice A' z.sub.length c'] 26)).alloc (by simp) (.cells #[.bool false, .int .u64 0, .int .u64 0, .string ⟨#[]⟩, .string ⟨#[]⟩] 48))
  have HK := Lib.hid ((Blk.new w 26 #[.int .i64 z.kind, .int .u64 z.num, .slice A z.bs.length c, .slice A' z.sub.length c']).alloc (.cells #[.bool false, .int .u64 0, .int .u64 0, .string ⟨#[]⟩, .string ⟨#[]⟩] 48))
  have HZ := Lib.hid (Blk.new (w.alloc (.cells #[.int .i64 z.kind, .int .u64 z.num, .slice A z.bs.length c, .slice A' z.sub.length c'] 26)) 48 #[.bool false, .int .u64 0, .int .u64 0, .string ⟨#[]⟩, .string ⟨#[]⟩])
  rw [World.size_alloc] at HZ
  have HS := Lib.hid (h3.below HB.out).lst
  have HI := Lib.hid (h6.below HB.out)
  have HBT := Lib.hid hb
  clear hv h3 h6 hk hn hb
  unfold maxLen at h5 h2
  go_enter Tryd.func92, Tryd.ntmps92
  by_cases h : z.sub.length = 2
  · obtain ⟨b, o, A1, e1, A2, e2, rfl, -, -, -, g1, -⟩ := HI.out.at_ (k := 0) (by omega)
    obtain ⟨b', o', A3, e3, A4, e4, ea, -, -, -, g2, -⟩ := HI.out.at_ (k := 1) (by omega)
    simp only [Option.some.injEq, Addr.mk.injEq, and_true] at ea
    obtain ⟨rfl, rfl⟩ := ea
    have HV : Hid ((gI z).val = Nm.val ⟨true, (z.sub[0]'(by omega)).num, (z.sub[1]'(by omega)).num, ⟨#[]⟩, ⟨#[]⟩⟩) := Lib.hid (by
      unfold gI
      rw [if_pos h]
      simp only [List.getD, List.getElem?_eq_getElem (show 0 < z.sub.length by omega), List.getElem?_eq_getElem (show 1 < z.sub.length by omega), Option.getD_some])
    generalize (z.sub[0]'(by omega)).num = n0 at *
    generalize (z.sub[1]'(by omega)).num = n1 at *
    generalize gI z = R at *
    simp only [Nat.zero_mul, Nat.add_zero, Nat.one_mul] at g1 g2
    clear HI HS HBT
    generalize z.sub.length = L at *
    subst h
    obtain ⟨k0, k1, k2, k3⟩ := cell4 HK.out
    obtain ⟨f0, f1, f2, f3, f4⟩ := froz5 HZ.out
    obtain ⟨c0, c1, c2, c3, c4⟩ := cells5 HZ.out
    go_wp2_with fail
    generalize (w.alloc (.cells #[.int .i64 z.kind, .int .u64 z.num, .slice A z.bs.length c, .slice (some ⟨b, o, none⟩) 2 c'] 26)).alloc (.cells #[.bool false, .int .u64 0, .int .u64 0, .string ⟨#[]⟩, .string ⟨#[]⟩] 48) = W at *
    go_region
    have HK2 := Lib.hid (set5_blk HZ.out (.bool true) (.int .u64 n0) (.int .u64 n1) (.string ⟨#[]⟩) (.string ⟨#[]⟩)).drew
    have HB2 := Lib.hid (set5_below HB.out (Nat.le_succ _) (.bool true) (.int .u64 n0) (.int .u64 n1) (.string ⟨#[]⟩) (.string ⟨#[]⟩)).drew
    clear c0 c1 c2 c3 c4 f0 f1 f2 f3 f4 k0 k1 k2 k3 g1 g2
    generalize hW2 : (set5 W (w.heap.size + 1) (.bool true) (.int .u64 n0) (.int .u64 n1) (.string ⟨#[]⟩) (.string ⟨#[]⟩)).drew = W2 at HK2 HB2
    clear hW2
    obtain ⟨c0, c1, c2, c3, c4⟩ := cells5 HK2.out
    go_wp2_with fail
    refine bodyPost_ret (v := R.val) (by rw [HV.out]; simp [results, Tryd.results92, go_sem, *]) rfl ⟨rfl, HB2.out⟩
  · have t0 : ((z.sub.length : Int) == 2) = false := by simp only [beq_eq_false_iff_ne, ne_eq]; omega
    have HV := Lib.hid (show (gI z).val = (gT (strOfNums z.bs).data.toList).val by unfold gI; rw [if_neg h])
    obtain ⟨k0, k1, k2, k3⟩ := cell4 HK.out
    have hc := run_string (P := Tryd.prog) HS.out 23 5 9 Tryd.underlying23 Tryd.underlying5 Tryd.underlying9 c
    have hz : (strOfNums z.bs).size ≤ 9223372036854775807 := by
      rw [Lib.size_eq, strOfNums_data]
      simp only [List.length_map]
      omega
    have CT := Lib.hid (fun W => guessTexts_all (strOfNums z.bs) hz W)
    clear hz
    go_wp2_with fail
    refine (CT.out _).mono ?_
    rintro e w1 ⟨rfl, hb1⟩
    have HB1 := Lib.hid (below_next HB.out HB.out.size hb1)
    have HZ1 := Lib.hid (HZ.out.next hb1)
    clear hb1 k0 k1 k2 k3 hc CT
    generalize gT (strOfNums z.bs).data.toList = t2 at *
    obtain ⟨i, n, s5, h, d⟩ := t2
    obtain ⟨c0, c1, c2, c3, c4⟩ := cells5 HZ1.out
    obtain ⟨f0, f1, f2, f3, f4⟩ := froz5 HZ1.out
    go_wp2_with fail
    have HK2 := Lib.hid (set5_blk HZ1.out (.bool i) (.int .u64 n) (.int .u64 s5) (.string h) (.string d))
    have HB2 := Lib.hid (set5_below HB1.out (Nat.le_succ _) (.bool i) (.int .u64 n) (.int .u64 s5) (.string h) (.string d))
    clear c0 c1 c2 c3 c4 f0 f1 f2 f3 f4
    generalize hW2 : set5 w1 (w.heap.size + 1) (.bool i) (.int .u64 n) (.int .u64 s5) (.string h) (.string d) = W2 at HK2 HB2
    unfold set5 at hW2
    rw [hW2]
    obtain ⟨c0, c1, c2, c3, c4⟩ := cells5 HK2.out
    refine bodyPost_ret (v := (gI z).val) (by rw [HV.out]; simp [results, Tryd.results92, go_sem, *]) rfl ⟨rfl, HB2.out⟩

/-- The name of an item, and its errno. -/
def rdOk (x : Itm) : Bool := decide (x.sub.length = 2) && (right (gI (x.sub.getD 1 (iN 0))) && same (itemOf (gI (x.sub.getD 1 (iN 0)))) x)
def rdI (x : Itm) : Nm := if rdOk x then gI (x.sub.getD 1 (iN 0)) else zeroNm
def rdE (x : Itm) : Int := if rdOk x then 0 else 3
theorem gI_ok (z : Itm) (hn : ∀ k (h : k < z.sub.length), 0 ≤ (z.sub[k]).num ∧ (z.sub[k]).num ≤ 18446744073709551615) (hl : z.bs.length ≤ maxLen) : (gI z).ok := by
  unfold gI
  by_cases h : z.sub.length = 2
  · rw [if_pos h]
    simp only [List.getD, List.getElem?_eq_getElem (show 0 < z.sub.length by omega), List.getElem?_eq_getElem (show 1 < z.sub.length by omega), Option.getD_some]
    have h0 := hn 0 (by omega)
    have h1 := hn 1 (by omega)
    exact ⟨h0.1, h0.2, h1.1, h1.2, Nat.zero_le _, Nat.zero_le _⟩
  · rw [if_neg h]
    refine gT_ok _ ?_
    rw [strOfNums_data, List.length_map]
    exact hl
theorem itemOf_size (x : Nm) : size (itemOf x) ≤ 5 ∧ deep (itemOf x) ≤ 3 := by
  unfold itemOf
  split
  · simp [size, sizes, deep, deeps]
  · split <;> simp [size, sizes, deep, deeps]
end Go.Proofs.YthknkdphofjmhaaDoor.Eid
/- Names and their items, there and back, plain. -/
namespace Go.Proofs.YthknkdphofjmhaaDoor.Eid
open Go.RowKit Wd Cb
/-- A name that may be is the one of its item. -/
theorem item_name (x : Nm) (hr : right x = true) : rdOk (itemOf x) = true ∧ rdI (itemOf x) = x := by
  have key : (itemOf x).sub.length = 2 ∧ gI ((itemOf x).sub.getD 1 (iN 0)) = x := by
    rcases kd_cases x with h | h | h
    · obtain rfl := kd_zero_eq x h
      unfold itemOf
      rw [h, if_pos rfl]
      exact ⟨rfl, rfl⟩
    · obtain ⟨e, -⟩ := right_one x hr h
      unfold itemOf
      rw [if_neg (by rw [h]; decide), if_pos h]
      exact ⟨rfl, e.symm⟩
    · obtain ⟨e, h1, h2, h3⟩ := right_two x hr h
      unfold itemOf
      rw [if_neg (by rw [h]; decide), if_neg (by rw [h]; decide)]
      refine ⟨rfl, ?_⟩
      show gT (strOfNums (CbCopy.nums (pathOf x.host x.demux))).data.toList = x
      rw [CbCopy.nums_str, gT_path _ _ (fun hm => (ok_host (mk_all h2 _ hm)).1 rfl)]
      exact e.symm
  have ho : rdOk (itemOf x) = true := by
    unfold rdOk
    rw [key.2, hr, same_self, decide_eq_true key.1]
    rfl
  refine ⟨ho, ?_⟩
  unfold rdI
  rw [ho, if_pos rfl, key.2]
theorem parse_ok (s : ByteArray) (hs : s.size ≤ 4294967280) : (parseOf s).ok := by
  unfold parseOf
  split
  · exact guess_ok _ (by have := Lib.size_eq s; unfold maxLen; omega)
  · exact zero_ok
theorem item_parts (x : Nm) (hx : x.ok) (hr : right x = true) : ∀ k (h : k < (itemOf x).sub.length), ((itemOf x).sub[k]).bs.length ≤ 4000000000 := by
  have key : ∀ z ∈ (itemOf x).sub, z.bs.length ≤ 4000000000 := by
    unfold itemOf
    split
    · intro z hz
      simp [Itm.sub] at hz
      rcases hz with rfl | rfl <;> simp [Itm.bs]
    · split
      · intro z hz
        simp [Itm.sub] at hz
        rcases hz with rfl | rfl <;> simp [Itm.bs]
      · rename_i h0 h1
        intro z hz
        simp [Itm.sub] at hz
        rcases hz with rfl | rfl
        · simp [Itm.bs]
        · show (CbCopy.nums (pathOf x.host x.demux)).length ≤ 4000000000
          rw [CbCopy.nums_length, path_size]
          have := right_texts x hr h0 h1
          omega
  intro k h
  exact key _ (List.getElem_mem h)
end Go.Proofs.YthknkdphofjmhaaDoor.Eid
