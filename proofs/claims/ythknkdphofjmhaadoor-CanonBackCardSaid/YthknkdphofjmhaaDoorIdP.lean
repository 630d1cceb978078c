/- Numbers of bundles, plain: what one is, whether it may be, its item and text, the order, what an item's number is. -/
import Derived.Test.YthknkdphofjmhaaDoorZgm
import Derived.Test.YthknkdphofjmhaaDoorZgn
namespace Go.Proofs.YthknkdphofjmhaaDoor.Eid
open Go.RowKit Wd Cb

/-- A number. -/
structure Id where
  src : Nm
  time : Int
  seq : Int
/-- Its bounds. -/
structure Id.ok (x : Id) : Prop where
  s : x.src.ok
  t0 : 0 ≤ x.time
  t1 : x.time ≤ 18446744073709551615
  q0 : 0 ≤ x.seq
  q1 : x.seq ≤ 18446744073709551615
abbrev Id.cells (x : Id) : Array Value := #[.bool x.src.ipn, .int .u64 x.src.node, .int .u64 x.src.service, .string x.src.host, .string x.src.demux, .int .u64 x.time, .int .u64 x.seq]
abbrev Id.val (x : Id) : Value := .agg x.cells
abbrev zeroId : Id := ⟨zeroNm, 0, 0⟩
theorem zeroId_ok : zeroId.ok := ⟨zero_ok, by decide, by decide, by decide, by decide⟩
/-- May a number be? -/
def iright (x : Id) : Bool := right x.src && (decide (x.time ≤ 1099511627776) && decide (x.seq ≤ 1099511627776))
theorem iright_zero : iright zeroId = true := by
  unfold iright
  rw [right_zero]
  decide
/-- The comparisons, one behind the other. -/
def iord (x y : Id) : Int := or1 [cI x.time y.time, cI x.seq y.seq, ord x.src y.src]
theorem iord_tri (x y z : Id) : Tri (iord x y) (iord y z) (iord x z) := by
  unfold iord
  refine tri_or (int_tri _ _ _) (int_range _ _) (int_range _ _) (tri_or (int_tri _ _ _) (int_range _ _) (int_range _ _) ?_)
  rw [or1_one, or1_one, or1_one]
  exact ord_tri _ _ _
theorem iord_swap (x y : Id) : iord y x = - iord x y := by
  unfold iord
  have h := or1_swap [cI x.time y.time, cI x.seq y.seq, ord x.src y.src]
  rw [← h]
  simp only [List.map_cons, List.map_nil]
  rw [cI_swap x.time, cI_swap x.seq, ord_swap x.src]
theorem iord_zero {x y : Id} : iord x y = 0 ↔ x = y := by
  constructor
  · intro h
    unfold iord at h
    have h0 := or1_zero h
    have a1 := int_zero (h0 _ (List.mem_cons_self ..))
    have a2 := int_zero (h0 (cI x.seq y.seq) (by simp))
    have a3 := ord_zero.1 (h0 (ord x.src y.src) (by simp))
    obtain ⟨x1, x2, x3⟩ := x
    obtain ⟨y1, y2, y3⟩ := y
    simp only at a1 a2 a3
    subst a1 a2 a3
    rfl
  · rintro rfl
    have := iord_swap x x
    omega
/-- Is a number ahead of another one? -/
def ils (x y : Id) : Bool := decide (iord x y < 0)
theorem ils_self (x : Id) : ils x x = false := by
  unfold ils
  rw [iord_zero.2 rfl]
  rfl
theorem ils_one (x y : Id) (h : x ≠ y) : (ils x y != ils y x) = true := by
  have h0 : iord x y ≠ 0 := fun e => h (iord_zero.1 e)
  unfold ils
  rw [iord_swap x y]
  by_cases k : iord x y < 0
  · rw [decide_eq_true k, decide_eq_false (by omega)]; rfl
  · rw [decide_eq_false k, decide_eq_true (by omega)]; rfl
theorem ils_both (x y : Id) : (ils x y && ils y x) = false := by
  unfold ils
  rw [iord_swap x y]
  by_cases k : iord x y < 0
  · rw [decide_eq_true k, decide_eq_false (by omega)]; rfl
  · rw [decide_eq_false k]; rfl
theorem ils_trans (x y z : Id) (h1 : ils x y = true) (h2 : ils y z = true) : ils x z = true := by
  unfold ils at *
  rw [decide_eq_true_eq] at *
  exact (iord_tri x y z).2.2 h1 h2
theorem ils_time {x y : Id} (h : x.time ≠ y.time) : ils x y = decide (x.time < y.time) := by
  unfold ils iord
  rw [cI_eq, cI_eq, or1_take (fun e => h ((cmpI_zero _ _).1 e))]
  exact decide_eq_decide.2 (cmpI_neg _ _)
theorem ils_seq {x y : Id} (h0 : x.time = y.time) (h : x.seq ≠ y.seq) : ils x y = decide (x.seq < y.seq) := by
  unfold ils iord
  rw [cI_eq, cI_eq, or1_skip ((cmpI_zero _ _).2 h0), or1_take (fun e => h ((cmpI_zero _ _).1 e))]
  exact decide_eq_decide.2 (cmpI_neg _ _)
theorem ils_src {x y : Id} (h0 : x.time = y.time) (h1 : x.seq = y.seq) : ils x y = decide (ord x.src y.src < 0) := by
  unfold ils iord
  rw [cI_eq, cI_eq, or1_skip ((cmpI_zero _ _).2 h0), or1_skip ((cmpI_zero _ _).2 h1), or1_one]
/-- Are two numbers one? -/
def idEq (x y : Id) : Bool := nmEq x.src y.src && (x.time == y.time && x.seq == y.seq)
theorem idEq_iff (x y : Id) : idEq x y = true ↔ x = y := by
  obtain ⟨a1, a2, a3⟩ := x
  obtain ⟨b1, b2, b3⟩ := y
  simp only [idEq, Bool.and_eq_true, beq_iff_eq, Id.mk.injEq, nmEq_iff]
theorem idEq_self (x : Id) : idEq x x = true := (idEq_iff x x).2 rfl

/-- A number's item. -/
def iitem (x : Id) : Itm := iL (itemOf x.src) (iL (iN x.time) (iN x.seq))
/-- The only number that can have this item, if one has it. -/
def ig (z : Itm) : Id := ⟨rdI (z.sub.getD 0 (iN 0)), ((z.sub.getD 1 (iN 0)).sub.getD 0 (iN 0)).num, ((z.sub.getD 1 (iN 0)).sub.getD 1 (iN 0)).num⟩
def irOk (z : Itm) : Bool := decide (z.sub.length = 2) && decide ((z.sub.getD 1 (iN 0)).sub.length = 2) && iright (ig z) && same (iitem (ig z)) z
def irI (z : Itm) : Id := if irOk z then ig z else zeroId
def irE (z : Itm) : Int := if irOk z then 0 else 3
theorem ig_item (x : Id) (h : iright x = true) : ig (iitem x) = x := by
  have hr : right x.src = true := by unfold iright at h; simp at h; exact h.1
  have e := (item_name x.src hr).2
  unfold ig iitem
  show (⟨rdI (itemOf x.src), x.time, x.seq⟩ : Id) = x
  rw [e]
theorem ir_item (x : Id) (h : iright x = true) : irOk (iitem x) = true ∧ irI (iitem x) = x := by
  have ho : irOk (iitem x) = true := by
    unfold irOk
    rw [ig_item x h, h, same_self]
    rfl
  refine ⟨ho, ?_⟩
  unfold irI
  rw [ho, if_pos rfl, ig_item x h]
theorem ir_back (z : Itm) (h : irOk z = true) : iright (irI z) = true ∧ iitem (irI z) = z := by
  have h' := h
  unfold irOk at h
  simp only [Bool.and_eq_true, decide_eq_true_eq] at h
  obtain ⟨⟨_, h2⟩, h3⟩ := h
  unfold irI
  rw [h', if_pos rfl]
  exact ⟨h2, (same_iff _ _).1 h3⟩
/-- A number's text. -/
def itext (x : Id) : ByteArray := (((textOf x.src ++ (⟨#[45]⟩ : ByteArray)) ++ dec x.time) ++ (⟨#[45]⟩ : ByteArray)) ++ dec x.seq
end Go.Proofs.YthknkdphofjmhaaDoor.Eid
