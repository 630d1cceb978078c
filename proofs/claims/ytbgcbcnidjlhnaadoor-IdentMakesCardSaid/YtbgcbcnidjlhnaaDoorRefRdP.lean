/- The contract of the reference's Read (layer 4), and that it tells what the code's does. -/
import Derived.Test.YtbgcbcnidjlhnaaDoorRefPar
import Derived.Test.YtbgcbcnidjlhnaaDoorRefWr
import Derived.Test.YtbgcbcnidjlhnaaDoorRefSame
import Derived.Test.YtbgcbcnidjlhnaaDoorEidRd
import Derived.Test.YtbgcbcnidjlhnaaDoorEidBackQ
namespace Go.Proofs.YtbgcbcnidjlhnaaDoor.Eid
open Go.RowKit Wd Cb EidL

/-- The text of a path's bytes behind the scheme. -/
def dtnStr (b : List Int) : ByteArray := (⟨#[100, 116, 110, 58]⟩ : ByteArray) ++ strOfNums b
/-- What the reference takes an item's name to be. -/
def zcand (z : Itm) : Option Nm := if z.kind = 4 ∧ z.sub.length = 2 then some ⟨true, (z.sub.getD 0 (iN 0)).num, (z.sub.getD 1 (iN 0)).num, ⟨#[]⟩, ⟨#[]⟩⟩ else if z.kind = 3 then (if rpOk (dtnStr z.bs) then some (rpVal (dtnStr z.bs)) else none) else some zeroNm
def rcand (x : Itm) : Option Nm := if x.kind = 4 ∧ x.sub.length = 2 then zcand (x.sub.getD 1 (iN 0)) else none
def r4Ok (x : Itm) : Bool := match rcand x with
  | none => false
  | some g => right g && same (itemOf g) x
def r4Val (x : Itm) : Nm := match rcand x with
  | none => zeroNm
  | some g => if right g && same (itemOf g) x then g else zeroNm
theorem r4_some {x : Itm} {g : Nm} (h : rcand x = some g) : r4Val x = (if right g && same (itemOf g) x then g else zeroNm) ∧ r4Ok x = (right g && same (itemOf g) x) := by
  unfold r4Val r4Ok
  rw [h]
  exact ⟨rfl, rfl⟩
theorem r4_none {x : Itm} (h : rcand x = none) : r4Val x = zeroNm ∧ r4Ok x = false := by
  unfold r4Val r4Ok
  rw [h]
  exact ⟨rfl, rfl⟩
theorem path_text (x : Nm) (h0 : kd x ≠ 0) (h1 : kd x ≠ 1) : dtnStr (CbCopy.nums (pathOf x.host x.demux)) = textOf x := by
  unfold dtnStr textOf
  rw [CbCopy.nums_str, if_neg h0, if_neg h1]
theorem zcand_txt (b : List Int) : zcand (.mk 3 0 b []) = if rpOk (dtnStr b) then some (rpVal (dtnStr b)) else none := by
  unfold zcand
  simp [Itm.kind, Itm.bs]
  rfl
theorem rcand_item (x : Nm) (hx : x.ok) (hr : right x = true) : rcand (itemOf x) = some x := by
  rcases kd_cases x with h | h | h
  · obtain rfl := kd_zero_eq x h
    unfold itemOf
    rw [h, if_pos rfl]
    rfl
  · obtain ⟨e, -⟩ := right_one x hr h
    unfold itemOf
    rw [if_neg (by rw [h]; decide), if_pos h]
    exact congrArg some e.symm
  · have h0 : kd x ≠ 0 := by rw [h]; decide
    have h1 : kd x ≠ 1 := by rw [h]; decide
    unfold itemOf
    rw [if_neg h0, if_neg h1]
    have hs := text_size x hx hr
    have hrp := rp_is (textOf x) (by omega)
    have hpt := parse_text x hx hr
    have hnm := isName_text x hx hr
    show zcand (.mk 3 0 (CbCopy.nums (pathOf x.host x.demux)) []) = some x
    rw [zcand_txt, path_text x h0 h1, hrp.1, hrp.2, hnm, if_pos rfl, hpt.1]
theorem r4_is (x : Itm) (hok : ∀ g, rcand x = some g → g.ok) (hgo : (gI (x.sub.getD 1 (iN 0))).ok) : r4Val x = rdI x ∧ r4Ok x = rdOk x := by
  cases h : r4Ok x
  · have hz : r4Val x = zeroNm := by
      cases hc : rcand x with
      | none => exact (r4_none hc).1
      | some g =>
        have := r4_some hc
        rw [this.1, ← this.2, h]
        rfl
    have hd : rdOk x = false := by
      cases hd : rdOk x
      · rfl
      · have hd' := hd
        unfold rdOk at hd
        simp only [Bool.and_eq_true, decide_eq_true_eq] at hd
        obtain ⟨_, h2, h3⟩ := hd
        have he := (same_iff _ _).1 h3
        have hc := rcand_item _ hgo h2
        rw [he] at hc
        have := (r4_some hc).2
        rw [h, h2, h3] at this
        cases this
    refine ⟨?_, hd.symm⟩
    rw [hz]
    unfold rdI
    rw [hd]
    rfl
  · cases hc : rcand x with
    | none => rw [(r4_none hc).2] at h; cases h
    | some g =>
      have h4 := r4_some hc
      rw [h4.2] at h
      have hb := h
      simp only [Bool.and_eq_true] at h
      obtain ⟨h2, h3⟩ := h
      have he := (same_iff _ _).1 h3
      have hn := item_name g h2
      rw [he] at hn
      rw [h4.1, if_pos hb, hn.1, hn.2]
      exact ⟨rfl, rfl⟩
end Go.Proofs.YtbgcbcnidjlhnaaDoor.Eid
