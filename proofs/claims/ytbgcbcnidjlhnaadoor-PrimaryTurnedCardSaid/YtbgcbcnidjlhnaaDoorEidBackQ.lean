/- Names and their items, there and back, plain. -/
import Derived.Test.YtbgcbcnidjlhnaaDoorEidRead
namespace Go.Proofs.YtbgcbcnidjlhnaaDoor.Eid
open Go.RowKit Wd Cb
/-- A name that may be is the one of its item. -/
theorem item_name (x : Nm) (hr : right x = true) : rdOk (itemOf x) = true ∧ rdI (itemOf x) = x := by
  have key : (itemOf x).sub.length = 2 ∧ gI ((itemOf x).sub.getD 1 (iN 0)) = x := by
    rcases kd_cases x with h | h | h
    · obtain rfl := kd_zero_eq x h
      unfold itemOf
      rw [h, if_pos rfl]
      exact ⟨rfl, rfl⟩
    · obtain ⟨e, -⟩ := right_one x hr h
      unfold itemOf
      rw [if_neg (by rw [h]; decide), if_pos h]
      exact ⟨rfl, e.symm⟩
    · obtain ⟨e, h1, h2, h3⟩ := right_two x hr h
      unfold itemOf
      rw [if_neg (by rw [h]; decide), if_neg (by rw [h]; decide)]
      refine ⟨rfl, ?_⟩
      show gT (strOfNums (CbCopy.nums (pathOf x.host x.demux))).data.toList = x
      rw [CbCopy.nums_str, gT_path _ _ (fun hm => (ok_host (mk_all h2 _ hm)).1 rfl)]
      exact e.symm
  have ho : rdOk (itemOf x) = true := by
    unfold rdOk
    rw [key.2, hr, same_self, decide_eq_true key.1]
    rfl
  refine ⟨ho, ?_⟩
  unfold rdI
  rw [ho, if_pos rfl, key.2]
theorem parse_ok (s : ByteArray) (hs : s.size ≤ 4294967280) : (parseOf s).ok := by
  unfold parseOf
  split
  · exact guess_ok _ (by have := Lib.size_eq s; unfold maxLen; omega)
  · exact zero_ok
theorem item_parts (x : Nm) (hx : x.ok) (hr : right x = true) : ∀ k (h : k < (itemOf x).sub.length), ((itemOf x).sub[k]).bs.length ≤ 4000000000 := by
  have key : ∀ z ∈ (itemOf x).sub, z.bs.length ≤ 4000000000 := by
    unfold itemOf
    split
    · intro z hz
      simp [Itm.sub] at hz
      rcases hz with rfl | rfl <;> simp [Itm.bs]
    · split
      · intro z hz
        simp [Itm.sub] at hz
        rcases hz with rfl | rfl <;> simp [Itm.bs]
      · rename_i h0 h1
        intro z hz
        simp [Itm.sub] at hz
        rcases hz with rfl | rfl
        · simp [Itm.bs]
        · show (CbCopy.nums (pathOf x.host x.demux)).length ≤ 4000000000
          rw [CbCopy.nums_length, path_size]
          have := right_texts x hr h0 h1
          omega
  intro k h
  exact key _ (List.getElem_mem h)
end Go.Proofs.YtbgcbcnidjlhnaaDoor.Eid
