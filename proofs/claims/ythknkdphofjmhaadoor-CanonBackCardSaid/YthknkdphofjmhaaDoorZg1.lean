/- Texts of my own, laid together: Words, Str, Frame. -/
import Derived.Below
import Derived.OwnWalk
import Derived.Laws.BytesArg
import Derived.Laws.NewBlocks
import Derived.Laws.IdiomStrings
import Derived.Deep.Draws
import Derived.Laws.Strings
import Derived.Lib.Strings
import Derived.WalkKit
import Derived.ProofKit
import Derived.OpenShut
import Derived.ShutString
import Derived.ChangeOld
import Derived.Lib.SmallJoins
/- Words of my own for memory: what a slice leads to, what a box holds, small steps of 'Below'. No program is named here. -/
namespace Go.Proofs.YthknkdphofjmhaaDoor.Wd
open Go.RowKit

theorem ret_bool {a b : Bool} (h : a = b) : Ending.returned (.bool a) = .returned (.bool b) := by rw [h]
theorem ret_int {k : IntKind} {a b : Int} (h : a = b) : Ending.returned (.int k a) = .returned (.int k b) := by rw [h]

/-- A box of three cells, behind calls that leave what is below the heap's size alone. -/
theorem box3 {w w1 : World} {x y z : Value} {t : TypeId} (hb : Below (w.alloc (.cells #[x, y, z] t)).heap.size (w.alloc (.cells #[x, y, z] t)) w1) :
    w1.cell? ⟨w.heap.size, 0, none⟩ = some x ∧ w1.cell? ⟨w.heap.size, 1, none⟩ = some y ∧ w1.cell? ⟨w.heap.size, 2, none⟩ = some z ∧ w.heap.size < w1.heap.size ∧ Below w.heap.size w w1 := by
  have h0 := hb.cell (p := ⟨w.heap.size, 0, none⟩) (by simp)
  have h1 := hb.cell (p := ⟨w.heap.size, 1, none⟩) (by simp)
  have h2 := hb.cell (p := ⟨w.heap.size, 2, none⟩) (by simp)
  have hs := hb.size
  simp at h0 h1 h2 hs
  exact ⟨h0, h1, h2, by omega, ((Below.refl _ _).alloc (Nat.le_refl _) _).trans (hb.mono (by simp))⟩

/-- Two boxes of three cells, one behind the other. -/
theorem box33 {w w1 : World} {x y z x' y' z' : Value} {t t' : TypeId} (hb : Below ((w.alloc (.cells #[x, y, z] t)).alloc (.cells #[x', y', z'] t')).heap.size ((w.alloc (.cells #[x, y, z] t)).alloc (.cells #[x', y', z'] t')) w1) :
    (w1.cell? ⟨w.heap.size, 0, none⟩ = some x ∧ w1.cell? ⟨w.heap.size, 1, none⟩ = some y ∧ w1.cell? ⟨w.heap.size, 2, none⟩ = some z) ∧
    (w1.cell? ⟨w.heap.size + 1, 0, none⟩ = some x' ∧ w1.cell? ⟨w.heap.size + 1, 1, none⟩ = some y' ∧ w1.cell? ⟨w.heap.size + 1, 2, none⟩ = some z') ∧
    (w1.frozen? ⟨w.heap.size, 0, none⟩ = false ∧ w1.frozen? ⟨w.heap.size, 1, none⟩ = false ∧ w1.frozen? ⟨w.heap.size, 2, none⟩ = false) ∧ w.heap.size + 1 < w1.heap.size ∧ Below w.heap.size w w1 := by
  have c0 := hb.cell (p := ⟨w.heap.size, 0, none⟩) (by simp; omega)
  have c1 := hb.cell (p := ⟨w.heap.size, 1, none⟩) (by simp; omega)
  have c2 := hb.cell (p := ⟨w.heap.size, 2, none⟩) (by simp; omega)
  have d0 := hb.cell (p := ⟨w.heap.size + 1, 0, none⟩) (by simp)
  have d1 := hb.cell (p := ⟨w.heap.size + 1, 1, none⟩) (by simp)
  have d2 := hb.cell (p := ⟨w.heap.size + 1, 2, none⟩) (by simp)
  have hs := hb.size
  have e : (w.alloc (.cells #[x, y, z] t)).heap.size = w.heap.size + 1 := World.size_alloc _ _
  have hrow : w1.heap[w.heap.size]? = some (.cells #[x, y, z] t (0, 0)) :=
    (hb.block w.heap.size (by simp; omega)).trans ((Below.heap_alloc _ _ _ (by simp)).trans (heap_alloc_new w _))
  have k := fun i => World.cell?_alloc_lt (w.alloc (.cells #[x, y, z] t)) (.cells #[x', y', z'] t') ⟨w.heap.size, i, none⟩ (by rw [e]; simp)
  rw [k] at c0 c1 c2
  rw [← e] at d0 d1 d2
  simp at c0 c1 c2 d0 d1 d2 hs
  exact ⟨⟨c0, c1, c2⟩, ⟨d0, d1, d2⟩, ⟨frozen_of_row w1 _ 0 _ _ hrow, frozen_of_row w1 _ 1 _ _ hrow, frozen_of_row w1 _ 2 _ _ hrow⟩, by omega, (((Below.refl _ _).alloc (Nat.le_refl _) _).alloc (by simp) _).trans (hb.mono (by simp; omega))⟩
theorem below_drewN {B : Nat} {a w : World} (h : Below B a w) (n : Nat) : Below B a (w.drewN n) := ⟨h.os, h.tape, h.output, h.size, h.block⟩
theorem below_set3 {B b : Nat} {a w : World} (h : Below B a w) (hb : B ≤ b) (x y z : Value) :
    Below B a (((w.setCell ⟨b, 0, none⟩ x).setCell ⟨b, 1, none⟩ y).setCell ⟨b, 2, none⟩ z) :=
  ((h.setCell (p := ⟨b, 0, none⟩) hb _).setCell (p := ⟨b, 1, none⟩) hb _).setCell (p := ⟨b, 2, none⟩) hb _
theorem below_box {B : Nat} {w w1 w2 : World} {o : Obj} (h : Below B w w1) (hB : B ≤ w1.heap.size) (k : Below (w1.alloc o).heap.size (w1.alloc o) w2) : Below B w w2 :=
  (h.alloc hB o).trans (k.mono (by simp; omega))
theorem below_next {w w1 w2 : World} {B : Nat} (h : Below B w w1) (hB : B ≤ w1.heap.size) (k : Below w1.heap.size w1 w2) : Below B w w2 := h.trans (k.mono hB)
theorem cell_next {w1 w2 : World} {b o : Nat} {v : Value} (c : w1.cell? ⟨b, o, none⟩ = some v) (k : Below w1.heap.size w1 w2) (hb : b < w1.heap.size) : w2.cell? ⟨b, o, none⟩ = some v := (k.cell (p := ⟨b, o, none⟩) hb).trans c

/-- The slice head A leads to the one-cell values vs, in a block below B. -/
def Lst (w : World) (B : Nat) (A : Option Addr) (vs : List Value) : Prop :=
  vs = [] ∨ ∃ b o, A = some ⟨b, o, none⟩ ∧ b < B ∧ ∀ j, j < vs.length → w.cell? ⟨b, o + j, none⟩ = vs[j]?

section
variable {w w' : World} {B B' : Nat} {A : Option Addr} {vs : List Value}
theorem Lst.nil : Lst w B A [] := .inl rfl
theorem Lst.keep (h : Lst w B A vs) (hk : ∀ p : Addr, p.block < B → w'.cell? p = w.cell? p) : Lst w' B A vs := by
  rcases h with h | ⟨b, o, e, hb, hc⟩
  · exact .inl h
  · exact .inr ⟨b, o, e, hb, fun j hj => (hk _ hb).trans (hc j hj)⟩
theorem Lst.more (h : Lst w B A vs) (hB : B ≤ B') : Lst w B' A vs := by
  rcases h with h | ⟨b, o, e, hb, hc⟩
  · exact .inl h
  · exact .inr ⟨b, o, e, by omega, hc⟩
theorem Lst.below (h : Lst w B A vs) (hb : Below B w w') : Lst w' B A vs := h.keep fun _ hp => hb.cell hp
theorem Lst.below' {C : Nat} (h : Lst w B A vs) (hb : Below C w w') (hC : B ≤ C) : Lst w' B A vs := h.below (hb.mono hC)
theorem Lst.at_ (h : Lst w B A vs) {k : Nat} (hk : k < vs.length) : ∃ b o, A = some ⟨b, o, none⟩ ∧ b < B ∧ ∀ j, j < vs.length → w.cell? ⟨b, o + j, none⟩ = vs[j]? := by
  rcases h with h | h
  · simp [h] at hk
  · exact h
theorem Lst.of_own {base n cap : Nat} {e : TypeId} (h : w.ownsRow base e 1 (.slice A n cap) n vs) : Lst w w.heap.size A vs := by
  rcases h.2 with ⟨h', hn⟩ | ⟨g, cap', cur, h', _⟩
  · have hl := h.1
    subst hn
    exact .inl (List.eq_nil_of_length_eq_zero (by simpa using hl))
  · injection h' with hA _ hc
    subst hA
    subst hc
    refine .inr ⟨g, 0, rfl, (h.lt g rfl).2, fun j hj => ?_⟩
    have := h.cellAt j (by have := h.1; omega)
    simpa using this
end
/-- The bytes of a list of numbers, as values. -/
abbrev u8s (xs : List Int) : List Value := xs.map (Value.int .u8)
theorem Lst.bytes {w : World} {B : Nat} {A : Option Addr} {xs : List Int} (h : Lst w B A (u8s xs)) {k : Nat} (hk : k < xs.length) :
    ∃ b o, A = some ⟨b, o, none⟩ ∧ b < B ∧ ∀ j, j < xs.length → w.cell? ⟨b, o + j, none⟩ = some (.int .u8 (xs.getD j 0)) := by
  obtain ⟨b, o, e, hb, hc⟩ := h.at_ (k := k) (by simpa using hk)
  refine ⟨b, o, e, hb, fun j hj => ?_⟩
  rw [hc j (by simpa using hj)]
  simp [List.getD, List.getElem?_eq_getElem hj]
theorem Lst.prefix_ {w : World} {B : Nat} {A : Option Addr} {xs : List Int} (h : Lst w B A (u8s xs)) (k : Nat) : Lst w B A (u8s (xs.take k)) := by
  rcases h with h | ⟨b, o, e, hb, hc⟩
  · exact .inl (by simp only [u8s, List.map_eq_nil_iff] at h; simp [h])
  · refine .inr ⟨b, o, e, hb, fun j hj => ?_⟩
    have : j < xs.length ∧ j < k := by simp at hj; omega
    rw [hc j (by simpa using this.1)]
    simp [u8s, List.getElem?_take, this.2]
/-- A row of the call's own is a slice. -/
theorem own_slice {w : World} {base n : Nat} {e : TypeId} {v : Value} {vs : List Value} (h : w.ownsRow base e 1 v n vs) : ∃ A c, v = .slice A n c ∧ n ≤ c ∧ c ≤ maxLen ∧ vs.length = n := by
  have hl := h.1
  rcases h.2 with ⟨h', hn⟩ | ⟨g, cap', cur, h', _, _, hc, hm, _⟩
  · subst hn
    exact ⟨none, 0, h', Nat.le_refl _, by simp [maxLen], by simpa using hl⟩
  · exact ⟨_, _, h', hc, hm, by simpa using hl⟩
/-- What is owned stays owned behind calls that leave it alone. -/
theorem own_later {w w' : World} {base n s : Nat} {e : TypeId} {v : Value} {vs : List Value} (h : w.ownsRow base e s v n vs) (hb : Below w.heap.size w w') : w'.ownsRow base e s v n vs := by
  have hg : w.grownBy w' none := ⟨hb.os, hb.tape, hb.output, hb.size, fun i hi _ => hb.block i hi⟩
  refine h.kept hg ?_
  cases v.ownBlock <;> simp
/-- A block that has just been made. -/
theorem Lst.lit (w : World) (cs : Array Value) (t : TypeId) : Lst (w.alloc (.cells cs t)) (w.heap.size + 1) (some ⟨w.heap.size, 0, none⟩) cs.toList := by
  refine .inr ⟨w.heap.size, 0, rfl, by omega, fun j hj => ?_⟩
  rw [Nat.zero_add, cell_of_row _ w.heap.size j cs t (0, 0) (heap_alloc_new w _)]
  simp
/-- A piece of such a slice. -/
theorem Lst.piece {w w' : World} {B' b o : Nat} {xs : List Int} (hc : ∀ j, j < xs.length → w.cell? ⟨b, o + j, none⟩ = some (.int .u8 (xs.getD j 0))) (hB : b < B') (hk : ∀ p : Addr, p.block = b → w'.cell? p = w.cell? p) (i n : Nat) (h : i + n ≤ xs.length) :
    Lst w' B' (some ⟨b, o + i, none⟩) (u8s ((xs.drop i).take n)) := by
  refine .inr ⟨b, o + i, rfl, hB, fun j hj => ?_⟩
  have hj' : j < n := by simp at hj; omega
  rw [hk ⟨b, o + i + j, none⟩ rfl, Nat.add_assoc, hc (i + j) (by omega)]
  simp [u8s, List.getD, hj', List.getElem?_eq_getElem (show i + j < xs.length by omega)]
/-- 'string(b)' of such a slice. -/
theorem run_string {P : Program} {w : World} {B : Nat} {A : Option Addr} {xs : List Int} (h : Lst w B A (u8s xs)) (src e dst : TypeId) (hs : P.underlying src = some (.slice e)) (he : P.underlying e = some (.int .u8)) (hd : P.underlying dst = some .string) (cap : Nat) :
    (convert src dst (.slice A xs.length cap)).run P w = .ok (.string (strOfNums xs)) w := by
  rcases h with h | ⟨b, o, rfl, hb, hc⟩
  · have hx : xs = [] := by simpa using h
    subst hx
    rcases A with _ | a
    · exact run_convert_bytes_nil w src e hs he _ _ dst hd
    · have := run_convert_bytes_back w src dst e a cap [] hs he hd (fun j hj => by simp at hj)
      simpa [strOfNums] using this
  · refine run_convert_bytes_arg w src e hs he b o xs.length cap xs rfl (fun i hi => ?_) dst hd
    rw [hc i (by simpa using hi)]
    simp [List.getD, List.getElem?_eq_getElem hi]
/-- A block that is known whole. -/
def Blk (w : World) (g : Nat) (t : TypeId) (cs : Array Value) : Prop := w.heap[g]? = some (.cells cs t (0, 0))
section
variable {w w' : World} {g : Nat} {t : TypeId} {cs : Array Value}
theorem Blk.lt (h : Blk w g t cs) : g < w.heap.size := by
  rcases Nat.lt_or_ge g w.heap.size with h1 | h1
  · exact h1
  · unfold Blk at h; rw [Array.getElem?_eq_none h1] at h; cases h
theorem Blk.cell (h : Blk w g t cs) (i : Nat) : w.cell? ⟨g, i, none⟩ = cs[i]? := cell_of_row w g i cs t (0, 0) h
theorem Blk.frozen (h : Blk w g t cs) (i : Nat) : w.frozen? ⟨g, i, none⟩ = false := frozen_of_row w g i cs t h
theorem Blk.new (w : World) (t : TypeId) (cs : Array Value) : Blk (w.alloc (.cells cs t)) w.heap.size t cs := heap_alloc_new w _
theorem Blk.alloc (h : Blk w g t cs) (o : Obj) : Blk (w.alloc o) g t cs := (Below.heap_alloc w o g h.lt).trans h
theorem Blk.drewN (h : Blk w g t cs) (n : Nat) : Blk (w.drewN n) g t cs := h
theorem Blk.drew (h : Blk w g t cs) : Blk w.drew g t cs := h
theorem Blk.set_ (h : Blk w g t cs) (i : Nat) (u : Value) : Blk (w.setCell ⟨g, i, none⟩ u) g t (cs.setIfInBounds i u) := heap_setCell_same w g i cs t u h
theorem Blk.far (h : Blk w g t cs) {p : Addr} (hp : g ≠ p.block) (u : Value) : Blk (w.setCell p u) g t cs := (Below.heap_setCell w p u g hp).trans h
theorem Blk.below {B : Nat} (h : Blk w g t cs) (hb : Below B w w') (hg : g < B) : Blk w' g t cs := (hb.block g hg).trans h
end
theorem only_drew {a w : World} {r : Option Nat} (h : a.grownBy w r) : a.grownBy w.drew r := ⟨h.os, h.tape, h.output, h.size, h.block⟩
theorem only_set {a w : World} {g : Nat} (h : a.grownBy w (some g)) {p : Addr} (hp : p.block = g) (u : Value) : a.grownBy (w.setCell p u) (some g) :=
  ⟨h.os, h.tape, h.output, by simpa [World.setCell] using h.size, fun i hi hne => (Below.heap_setCell w p u i (fun e => hne (by rw [e, hp]))).trans (h.block i hi hne)⟩
theorem only_trans {a b c : World} {r : Option Nat} (h : a.grownBy b r) (k : b.grownBy c r) : a.grownBy c r :=
  ⟨k.os.trans h.os, k.tape.trans h.tape, k.output.trans h.output, Nat.le_trans h.size k.size, fun i hi hne => (k.block i (Nat.lt_of_lt_of_le hi h.size) hne).trans (h.block i hi hne)⟩
theorem only_below {a b : World} {r : Option Nat} (h : Below a.heap.size a b) : a.grownBy b r := ⟨h.os, h.tape, h.output, h.size, fun i hi _ => h.block i hi⟩
theorem only_alloc {a w : World} {r : Option Nat} (h : a.grownBy w r) (o : Obj) : a.grownBy (w.alloc o) r :=
  ⟨h.os, h.tape, h.output, Nat.le_trans h.size (by simp), fun i hi hne => (Below.heap_alloc w o i (Nat.lt_of_lt_of_le hi h.size)).trans (h.block i hi hne)⟩
/-- A slice stays behind a call that writes another block alone. -/
theorem Lst.only {w W : World} {B g : Nat} {A : Option Addr} {vs : List Value} (h : Lst w B A vs) (hB : B ≤ w.heap.size) (hne : ∀ b o, A = some ⟨b, o, none⟩ → b ≠ g) (hg : w.grownBy W (some g)) : Lst W B A vs := by
  rcases h with h | ⟨b, o, e, hb, hc⟩
  · exact .inl h
  · refine .inr ⟨b, o, e, hb, fun j hj => ?_⟩
    rw [← hc j hj]
    exact World.cell?_of_block (hg.block b (by omega) (fun e2 => hne b o e (by injection e2)))
/-- A new row that bears a mark. -/
theorem Lst.litm (w : World) (cs : Array Value) (t : TypeId) (fr : Nat × Nat) : Lst (w.alloc (.cells cs t fr)) (w.heap.size + 1) (some ⟨w.heap.size, 0, none⟩) cs.toList := by
  refine .inr ⟨w.heap.size, 0, rfl, by omega, fun j _ => ?_⟩
  rw [Nat.zero_add, World.cell?_alloc_mark]
  simp
theorem Blk.three {w : World} {g : Nat} {t : TypeId} {x y z : Value} (h : Blk w g t #[x, y, z]) :
    w.cell? ⟨g, 0, none⟩ = some x ∧ w.cell? ⟨g, 1, none⟩ = some y ∧ w.cell? ⟨g, 2, none⟩ = some z := ⟨by simpa using h.cell 0, by simpa using h.cell 1, by simpa using h.cell 2⟩
theorem Blk.next {w w' : World} {g : Nat} {t : TypeId} {cs : Array Value} (h : Blk w g t cs) (hb : Below w.heap.size w w') : Blk w' g t cs := h.below hb h.lt
end Go.Proofs.YthknkdphofjmhaaDoor.Wd
/- Texts out of numbers: when they are equal, when one is less. No program is named here. -/
namespace Go.Proofs.YthknkdphofjmhaaDoor.St

def bts (l : List Int) : Prop := ∀ x ∈ l, 0 ≤ x ∧ x ≤ 255
def less : List Int → List Int → Bool
  | _, [] => false
  | [], _ :: _ => true
  | a :: x, b :: y => decide (a < b) || (a == b && less x y)

theorem ofNat_lt (a b : Int) (ha : 0 ≤ a ∧ a ≤ 255) (hb : 0 ≤ b ∧ b ≤ 255) : (UInt8.ofNat a.toNat < UInt8.ofNat b.toNat) ↔ a < b := by
  rw [UInt8.lt_iff_toNat_lt, UInt8.toNat_ofNat', UInt8.toNat_ofNat', Nat.mod_eq_of_lt (by omega), Nat.mod_eq_of_lt (by omega)]
  omega
theorem ofNat_eq (a b : Int) (ha : 0 ≤ a ∧ a ≤ 255) (hb : 0 ≤ b ∧ b ≤ 255) : (UInt8.ofNat a.toNat = UInt8.ofNat b.toNat) ↔ a = b := by
  constructor
  · intro h
    have h1 := congrArg UInt8.toNat h
    rw [UInt8.toNat_ofNat', UInt8.toNat_ofNat', Nat.mod_eq_of_lt (by omega), Nat.mod_eq_of_lt (by omega)] at h1
    omega
  · rintro rfl; rfl
theorem less_bytes : ∀ (x y : List Int), bts x → bts y → Op.bytesLess (x.map fun n => UInt8.ofNat n.toNat) (y.map fun n => UInt8.ofNat n.toNat) = less x y
  | _, [], _, _ => by simp [Op.bytesLess, less]
  | [], _ :: _, _, _ => by simp [Op.bytesLess, less]
  | a :: x, b :: y, hx, hy => by
    have ha := hx a (by simp)
    have hb := hy b (by simp)
    have ih := less_bytes x y (fun z hz => hx z (by simp [hz])) (fun z hz => hy z (by simp [hz]))
    simp only [List.map_cons, Op.bytesLess, less, ih]
    congr 1
    · exact decide_eq_decide.2 (ofNat_lt a b ha hb)
    · congr 1
      rw [Bool.eq_iff_iff]
      simp [ofNat_eq a b ha hb]
theorem toList_nums (x : List Int) : (strOfNums x).toList = x.map fun n => UInt8.ofNat n.toNat := by rw [Lib.toList_data, strOfNums_data]
theorem less_nums (x y : List Int) (hx : bts x) (hy : bts y) : Op.bytesLess (strOfNums x).toList (strOfNums y).toList = less x y := by
  rw [toList_nums, toList_nums, less_bytes x y hx hy]
theorem map_inj : ∀ (x y : List Int), bts x → bts y → (x.map fun n => UInt8.ofNat n.toNat) = (y.map fun n => UInt8.ofNat n.toNat) → x = y
  | [], [], _, _, _ => rfl
  | [], _ :: _, _, _, h => by simp at h
  | _ :: _, [], _, _, h => by simp at h
  | a :: x, b :: y, hx, hy, h => by
    simp only [List.map_cons, List.cons.injEq] at h
    have h1 := (ofNat_eq a b (hx a (by simp)) (hy b (by simp))).1 h.1
    have h2 := map_inj x y (fun z hz => hx z (by simp [hz])) (fun z hz => hy z (by simp [hz])) h.2
    rw [h1, h2]
theorem nums_inj (x y : List Int) (hx : bts x) (hy : bts y) (h : strOfNums x = strOfNums y) : x = y := by
  refine map_inj x y hx hy ?_
  rw [← toList_nums, ← toList_nums, h]
theorem nums_beq (x y : List Int) (hx : bts x) (hy : bts y) : ((strOfNums x).toList == (strOfNums y).toList) = decide (x = y) := by
  rw [toList_nums, toList_nums, Bool.eq_iff_iff, beq_iff_eq, decide_eq_true_eq]
  exact ⟨map_inj x y hx hy, fun h => by rw [h]⟩
end Go.Proofs.YthknkdphofjmhaaDoor.St
/- Openers of arguments: what a reading of an argument tells a walk. No program is named here. -/
namespace Go.Proofs.YthknkdphofjmhaaDoor.Fr
open Go.ChangeShapes Go.WideShapes Go.ChangeAt Go.RowKit Go.Joins Go.Deep Wd

section
variable {H : Type} {enc : TypeId × Value → H} {P : Program} {W : World}

theorem lt_of_cell {w : World} {a : Addr} {v : Value} (h : w.cell? a = some v) : a.block < w.heap.size := by
  rcases Nat.lt_or_ge a.block w.heap.size with hl | hg
  · exact hl
  · simp [World.cell?, Array.getElem?_eq_none hg] at h

/-- A slice of bytes that came in. -/
theorem open_bytes {t e : TypeId} {base : Nat} {v : Value} {d : DataW H} {p : List MemPlace} (ht : P.underlying t = some (.slice e)) (he : P.underlying e = some (.int .u8)) (hc : P.cellsOf e = 1)
    (hval : Value.okWide P W .any base t v) (h : DataW.Trod enc P W 0 (fun _ => true) true t v d p) :
    ∃ A c xs, v = .slice A xs.length c ∧ xs.length ≤ c ∧ c ≤ maxLen ∧ Lst W W.heap.size A (u8s xs) ∧ St.bts xs := by
  obtain ⟨a, len, cap, rfl⟩ := okWide_slice ht hval
  obtain ⟨fuel, hf⟩ := h
  rcases open_ints ht he hc hf with ⟨hcs, _⟩ | ⟨x, l, c, zs, hcs, _, hl, hm, hz, _, hcell, hwz⟩
  · simp [Value.cells] at hcs
    obtain ⟨rfl, rfl, rfl⟩ := hcs
    exact ⟨none, 0, [], rfl, Nat.le_refl _, by simp [maxLen], .inl rfl, fun x hx => by simp at hx⟩
  · simp [Value.cells] at hcs
    obtain ⟨rfl, rfl, rfl⟩ := hcs
    simp at hz
    have hlen : (zs.take len).length = len := by simp; omega
    refine ⟨some x, cap, zs.take len, by rw [hlen], by omega, hm, ?_, fun y hy => bounds_u8 (hwz y (List.mem_of_mem_take hy))⟩
    rcases Nat.eq_zero_or_pos len with h0 | h0
    · subst h0; exact .inl (by simp)
    · have hc0 := hcell 0 (by omega)
      obtain ⟨b, o, spot⟩ := x
      have hspot : spot = none := by simpa [Addr.add] using World.cell?_spot hc0
      subst hspot
      refine .inr ⟨b, o, rfl, ?_, fun j hj => ?_⟩
      · have := lt_of_cell hc0
        simpa [Addr.add] using this
      · have hj' : j < len := by simp at hj; omega
        have hcj := hcell j (by omega)
        have hplain : (⟨b, o, none⟩ : Addr).add j = ⟨b, o + j, none⟩ := by unfold Addr.add; split <;> simp_all
        rw [hplain] at hcj
        rw [hcj]
        simp [u8s, List.getD, List.getElem?_take, hj', List.getElem?_eq_getElem (show j < zs.length by omega)]

/-- A struct of an int, a uint64 and a bool, by value. -/
theorem open_head {t t0 t1 t2 : TypeId} {f0 f1 f2 : Field} {base : Nat} {v : Value} {d : DataW H} {p : List MemPlace} (hs : P.underlying t = some (.struct #[f0, f1, f2])) (hone : oneCellFields P #[f0, f1, f2] = true) (hC : P.cellsOf t = 3)
    (e0 : f0.type = t0) (e1 : f1.type = t1) (e2 : f2.type = t2) (u0 : P.underlying t0 = some (.int .i64)) (u1 : P.underlying t1 = some (.int .u64)) (u2 : P.underlying t2 = some .bool)
    (hval : Value.okWide P W .any base t v) (h : DataW.Trod enc P W 0 (fun _ => true) true t v d p) :
    ∃ (m n : Int) (o : Bool), v = .agg #[.int .i64 m, .int .u64 n, .bool o] ∧ (-9223372036854775808 ≤ m ∧ m ≤ 9223372036854775807) ∧ (0 ≤ n ∧ n ≤ 18446744073709551615) := by
  obtain ⟨c0, c1, c2, y0, y1, y2, n, rfl, rfl, rfl, h0, h1, h2⟩ := open_agg3 hs hone hC hval h
  subst e0 e1 e2
  obtain ⟨a, r0, _, wa⟩ := DataW.trod_int u0 h0
  obtain ⟨b, r1, _, wb⟩ := DataW.trod_int u1 h1
  obtain ⟨o, r2, _⟩ := DataW.trod_bool u2 h2
  simp at r0 r1 r2
  subst r0 r1 r2
  exact ⟨a, b, o, rfl, bounds_i64 wa, bounds_u64 wb⟩
end
end Go.Proofs.YthknkdphofjmhaaDoor.Fr
