/- Texts of my own, laid together: PrimSe, PrimS1, PrimS2, PrimSeal. -/
import Derived.Test.YthknkdphofjmhaaDoorPrimQ
import Derived.Test.YthknkdphofjmhaaDoorZgb
import Derived.Test.YthknkdphofjmhaaDoorPrimFill
import Derived.Test.YthknkdphofjmhaaDoorCbLays
/- Sealing: the walk of Seal. -/
namespace Go.Proofs.YthknkdphofjmhaaDoor.Prim
open Go.RowKit Wd Cb Eid EncB CbCopy CbList CbRight CbWrite CbLays

/-- A list that was made: its row is a block of its own. -/
def Laid (w w' : World) (x : Itm) (v : Value) : Prop :=
  ∃ g, v = .agg #[.int .i64 4, .int .u64 0, .slice none 0 0, .slice (some ⟨g, 0, none⟩) x.sub.length x.sub.length] ∧ w.heap.size ≤ g ∧ Row w' g (g + 1) w'.heap.size x.sub
abbrev zeroV : Value := .agg #[.int .i64 0, .int .u64 0, .slice none 0 0, .slice none 0 0]
abbrev listV (A : Option Addr) (n c : Nat) : Value := .agg #[.int .i64 4, .int .u64 0, .slice none 0 0, .slice A n c]
theorem item_list {w : World} {lo hi : Nat} {l : List Itm} {A : Option Addr} {n c : Nat} (h : ItemsV w lo hi l A) (hn : l.length = n) (hc : n ≤ c) (hm : c ≤ maxLen) : ItemV w lo hi (lst l) (listV A n c) := by
  subst hn
  exact ItemV.mk ⟨by omega, by omega⟩ ⟨by omega, by omega⟩ (fun q hq => by simp at hq) (Nat.le_refl _) (by unfold maxLen; omega) .nil hc hm h
theorem Laid.item {w w' : World} {x : Itm} {v : Value} (h : Laid w w' x v) (hx : x = lst x.sub) (hl : x.sub.length ≤ maxLen) : ItemV w' w.heap.size w'.heap.size x v := by
  obtain ⟨g, rfl, h1, h2⟩ := h
  have := item_list (h2.items (L := w.heap.size) (H := w'.heap.size) h1 h2.lt (by omega) (Nat.le_refl _)) rfl (Nat.le_refl _) hl
  rwa [← hx] at this
theorem cells_item {w : World} {g : Nat} {t : TypeId} {a b c d : Value} (h : Blk w g t #[a, b, c, d]) : (w.cell? ⟨g, 0, none⟩ = some a ∧ w.cell? ⟨g, 1, none⟩ = some b ∧ w.cell? ⟨g, 2, none⟩ = some c ∧ w.cell? ⟨g, 3, none⟩ = some d) ∧ (w.frozen? ⟨g, 0, none⟩ = false ∧ w.frozen? ⟨g, 1, none⟩ = false ∧ w.frozen? ⟨g, 2, none⟩ = false ∧ w.frozen? ⟨g, 3, none⟩ = false) :=
  ⟨cells4 h, h.frozen 0, h.frozen 1, h.frozen 2, h.frozen 3⟩
/-- The bytes of a sum stand in their place. -/
theorem Put.bytes {w : World} {g : Nat} {t : TypeId} {cs : Array Value} {m : Nat} {S : Int} (h : Put w g t cs m m S) (hn : m ≤ cs.size) : ∃ cs', Blk w g t cs' ∧ m ≤ cs'.size ∧ ∀ j, j < m → cs'[j]? = (u8s (HeadP.be S m))[j]? := by
  obtain ⟨cs', h1, h2, h3, h4⟩ := h
  refine ⟨cs', h1, by omega, fun j hj => ?_⟩
  rw [h4 j (by omega) hj, List.getElem?_map, be_at m S j hj]
  rfl
theorem enc_lst_len (l : List Itm) : (enc (lst l)).length ≤ 9 + (encs l).length := by
  have := Great.bytes_le 4 (cn (lst l)) false
  rw [enc_sub]
  simp only [List.length_append]
  show (HeadP.bytes 4 (cn (lst l)) false).length + 0 + (encs l).length ≤ _
  omega
theorem encs_with_len (l : List Itm) (b : List Int) : (encs (l ++ [.mk 2 0 b []])).length ≤ (encs l).length + 9 + b.length := by
  have := Great.bytes_le 2 (cn (.mk 2 0 b [])) false
  rw [encs_append]
  simp only [List.length_append]
  show (encs l).length + ((HeadP.bytes 2 (cn (.mk 2 0 b [])) false ++ b ++ []) ++ []).length ≤ _
  simp only [List.length_append, List.length_nil]
  omega
theorem below_row {B g : Nat} {w0 w w' : World} (h : Below B w0 w) (hb : w.grownBy w' (some g)) (hg : B ≤ g) (hB : B ≤ w.heap.size) : Below B w0 w' :=
  h.trans ⟨hb.os, hb.tape, hb.output, hb.size, fun i hi => hb.block i (by omega) (fun e => by injection e; omega)⟩
theorem listV_len {g n m : Nat} (h : m = n) : listV (some ⟨g, 0, none⟩) n n = listV (some ⟨g, 0, none⟩) m m := by rw [h]
/-- Behind fill: the last item has other bytes. -/
theorem row_filled {w w' : World} {g m gB q : Nat} {l : List Itm} {vs' spare : List Value} {A' : Option Addr} {cs : Array Value} {S : Int} (hq : 2 * q ≤ 1000)
    (hk : Blk w g 26 (vs' ++ [Value.int .i64 2, .int .u64 0, .slice (some ⟨gB, 0, none⟩) (2 * q) (2 * q), .slice A' 0 0] ++ spare).toArray) (hl : Lays w (g + 1) m l vs')
    (hm : m ≤ gB) (hgB : gB < w.heap.size) (hcs : 2 * q ≤ cs.size) (hp : Put w' gB 5 cs (2 * q) (2 * q) S) (hg : w.grownBy w' (some gB)) : Row w' g (g + 1) w'.heap.size (l ++ [.mk 2 0 (HeadP.be S (2 * q)) []]) := by
  have hgm := hl.le
  have hgl := hk.lt
  have hsz := hg.size
  have kp : ∀ i, i < w.heap.size → i ≠ gB → w'.heap[i]? = w.heap[i]? := fun i h1 h2 => hg.block i h1 (fun e => h2 (by injection e))
  obtain ⟨cs', b1, b2, b3⟩ := hp.bytes hcs
  have hbl := HeadP.be_length (2 * q) S
  refine ⟨_, spare, (kp g hgl (by omega)).trans hk, (hl.keep fun i h1 h2 => kp i (by omega) (by omega)).snoc (lo2 := gB) hm (by omega) ⟨some ⟨gB, 0, none⟩, A', ?_, ⟨by show (-9223372036854775808 : Int) ≤ 2; omega, by show (2 : Int) ≤ _; omega⟩, ⟨Int.le_refl 0, by show (0 : Int) ≤ _; omega⟩, ?_, ?_, ?_, by show 0 ≤ maxLen; omega, ItemsV.nil⟩⟩
  · show _ = [Value.int .i64 2, .int .u64 0, .slice (some ⟨gB, 0, none⟩) (HeadP.be S (2 * q)).length (HeadP.be S (2 * q)).length, .slice A' 0 0]
    rw [hbl]
  · intro x hx
    exact HeadP.be_bound _ _ _ hx
  · show (HeadP.be S (2 * q)).length ≤ maxLen
    rw [hbl]
    unfold maxLen
    omega
  · exact .inr ⟨gB, cs', rfl, Nat.le_refl _, by omega, b1, by show (HeadP.be S (2 * q)).length ≤ _; omega, fun j hj => b3 j (by have : (HeadP.be S (2 * q)).length = 2 * q := hbl; show j < 2 * q; have hj' : j < (HeadP.be S (2 * q)).length := hj; omega)⟩

set_option maxRecDepth 100000 in
set_option maxHeartbeats 4000000 in
theorem seal_yes0 (l : List Itm) (A : Option Addr) (B c k : Nat) (w : World) (hv : ItemsV w 0 B l A) (hB : B ≤ w.heap.size) (hc : l.length ≤ c) (hm : c ≤ maxLen) (hk : k < l.length) (hE : (encs l).length ≤ 1000000000) (hd : deeps l ≤ 60000) (hT : Tabs w) (hS : Sz w) (ht : typ l[k] = 0) (hr : Cb.right (blank l 0) = true) :
    Calls Tryd.prog 8 #[.slice A l.length c, .int .i64 k] w fun e w' => ∃ v, e = .returned (.tuple #[v, .int .i64 0]) ∧ Hid (Laid w w' (lst l) v) ∧ Below w.heap.size w w' := by
  have hls := length_le_sizes l
  have hse := sizes_enc l
  have hwe := wides_enc l
  have hsk := size_at l k hk
  have hdk := deep_at l k hk
  have HB0 := Lib.hid ((Below.refl w.heap.size w).alloc (Nat.le_refl _) (.cells #[.int .i64 0, .int .u64 0, .slice none 0 0, .slice none 0 0] 26))
  have HK0 := Lib.hid (Blk.new w 26 #[.int .i64 0, .int .u64 0, .slice none 0 0, .slice none 0 0])
  have HV := Lib.hid (fun (W : World) (h : Below w.heap.size w W) => hv.below (h.mono hB))
  have HTW := Lib.hid (fun (W : World) (h : Below w.heap.size w W) => And.intro (hT.below h (Nat.le_refl _)) (hS.below h (Nat.le_refl _)))
  have CS := Lib.hid (sumSize_any l A B c k _ (HV.out _ HB0.out) (by have := HB0.out.size; omega) hk hc hm (by omega) (by omega) (HTW.out _ HB0.out).2)
  rw [ht] at CS
  have j0 : (0 : Int) ≤ (k : Int) := by omega
  have j1 : (k : Int) < (l.length : Int) := by omega
  have d0 : decide ((k : Int) < 0) = false := decide_eq_false (by omega)
  have d1 : decide ((l.length : Int) ≤ (k : Int)) = false := decide_eq_false (by omega)
  have d2 : decide (l.length ≤ k) = false := decide_eq_false (by omega)
  have hz0 : w.heap.size < (w.alloc (.cells #[.int .i64 0, .int .u64 0, .slice none 0 0, .slice none 0 0] 26)).heap.size := by simp
  have HR := Lib.hid hr
  have CB := Lib.hid (fun (W : World) => blank_none A l.length c W)
  have hEL : (encs l).length ≤ 1000000100 := by
    omega
  have hen : (enc (lst l)).length ≤ 1000000200 := by
    have h1 := enc_lst_len l
    have h2 : (enc (lst l)).length ≤ 9 + (encs l).length := h1
    omega
  have hen2 : (enc (lst l)).length ≤ 100000000000000 := by omega
  have hen3 : (enc (lst l)).length ≤ 18446744073709551615 := by omega
  have hwL : wides l ≤ 100000000000000 := by have := wides_enc l; omega
  have hsL : sizes l ≤ 2147483647 := by have := sizes_enc l; omega
  have hdL : deeps l ≤ 65537 := by
    omega
  have CW := Lib.hid (fun (W : World) (A2 : Option Addr) (c2 : Nat) (h : Below w.heap.size w W) (hi : ItemsV W 0 W.heap.size l A2) (h1 : l.length ≤ c2) (h2 : c2 ≤ maxLen) =>
    write_yes (lst l) (listV A2 l.length c2) W.heap.size W (item_list hi rfl h1 h2) (Nat.le_refl _) (HTW.out W h).1 hr hen2)
  have CLs := Lib.hid (fun (W : World) (A2 : Option Addr) (c2 : Nat) (hi : ItemsV W 0 W.heap.size l A2) (h1 : l.length ≤ c2) (h2 : c2 ≤ maxLen) =>
    show Calls Tryd.prog 33 #[.slice A2 l.length c2] W (fun e w' => ∃ g, e = .returned (listV (some ⟨g, 0, none⟩) l.length l.length) ∧ Hid (W.heap.size ≤ g ∧ Row w' g (g + 1) w'.heap.size l) ∧ Below W.heap.size W w') from by
      have := list_lays l A2 W.heap.size c2 W (by omega) hi (Nat.le_refl _) h1 h2 hwL hsL hdL
      exact this)
  have HI0 := Lib.hid (fun (W : World) (h : Below w.heap.size w W) => (HV.out W h).more (Nat.le_refl _) (show B ≤ W.heap.size by have := h.size; omega))
  have hlm : l.length + 1 ≤ maxLen := by unfold maxLen; omega
  have hcm := hm
  clear hv hT hS hE hd hls hse hwe hsk hdk hwL hsL hdL hr HV hen hEL hen2 hen3
  go_enter Tryd.func8, Tryd.ntmps8
  go_wp2_with fail
  refine CS.out.mono ?_
  rintro e w1 ⟨rfl, hb1⟩
  rw [show szv 0 = 0 from rfl, show decide ((0 : Int) ≤ 0) = true from rfl]
  have HB1 := Lib.hid (below_next HB0.out HB0.out.size hb1)
  have HK1 := Lib.hid (HK0.out.next hb1)
  have hz1 : w.heap.size < w1.heap.size := Nat.lt_of_lt_of_le hz0 hb1.size
  clear hb1 CS HK0 HB0 hz0
  go_wp2_with fail
  refine (CB.out _).mono ?_
  rintro e w1' ⟨rfl, rfl⟩
  have HI2 := Lib.hid (HI0.out _ HB1.out)
  have HB2 := HB1
  have HK2 := HK1
  have hz2 := hz1
  have hc1 := hc
  have hc2 := hcm
  clear CB HI0
  have HKx := Lib.hid (Blk.new w1 26 #[.int .i64 4, .int .u64 0, .slice none 0 0, .slice A l.length c])
  have HB3 := Lib.hid (HB2.out.alloc HB2.out.size (.cells #[.int .i64 4, .int .u64 0, .slice none 0 0, .slice A l.length c] 26))
  have HK3 := Lib.hid (HK2.out.alloc (.cells #[.int .i64 4, .int .u64 0, .slice none 0 0, .slice A l.length c] 26))
  have HI3 := Lib.hid ((HI2.out.alloc (Nat.le_refl _) (.cells #[.int .i64 4, .int .u64 0, .slice none 0 0, .slice A l.length c] 26)).more (lo' := 0) (hi' := (w1.alloc (.cells #[.int .i64 4, .int .u64 0, .slice none 0 0, .slice A l.length c] 26)).heap.size) (Nat.le_refl _) (by simp))
  have hz3 : w1.heap.size < (w1.alloc (.cells #[.int .i64 4, .int .u64 0, .slice none 0 0, .slice A l.length c] 26)).heap.size := by simp
  have HW3 := Lib.hid (CW.out _ A c HB3.out HI3.out hc1 hc2)
  clear HI2 HB2 HK2 CW
  go_wp2_with fail
  generalize w1.alloc (.cells #[.int .i64 4, .int .u64 0, .slice none 0 0, .slice A l.length c] 26) = w3 at *
  refine HW3.out.mono ?_
  rintro e w4 ⟨Ab, rfl, HSb, hb4⟩
  have HB4 := Lib.hid (below_next HB3.out HB3.out.size hb4)
  have HK4 := Lib.hid (HK3.out.next hb4)
  have HKx4 := Lib.hid (HKx.out.next hb4)
  have HI4 := Lib.hid ((HI3.out.below hb4).more (Nat.le_refl _) hb4.size)
  have HL4 := Lib.hid (CLs.out w4 A c HI4.out hc1 hc2)
  have hz4 : w3.heap.size ≤ w4.heap.size := hb4.size
  obtain ⟨⟨x0, x1, x2, x3⟩, y0, y1, y2, y3⟩ := cells_item HKx4.out
  clear hb4 HW3 HB3 HK3 HKx HI3 CLs
  go_wp2_with fail
  refine HL4.out.mono ?_
  rintro e w5 ⟨g, rfl, HG5, hb5⟩
  have HB5 := Lib.hid (below_next HB4.out HB4.out.size hb5)
  have HK5 := Lib.hid (HK4.out.next hb5)
  have HKx5 := Lib.hid (HKx4.out.next hb5)
  have hz5 : w4.heap.size ≤ w5.heap.size := hb5.size
  obtain ⟨⟨x0, x1, x2, x3⟩, y0, y1, y2, y3⟩ := cells_item HKx5.out
  obtain ⟨⟨z0, z1, z2, z3⟩, u0, u1, u2, u3⟩ := cells_item HK5.out
  have hg5 := HG5.out.1
  clear hb5 HL4 HB4 HK4 HKx4 HI4 x0 x1 x2 x3 y0 y1 y2 y3
  obtain ⟨⟨x0, x1, x2, x3⟩, y0, y1, y2, y3⟩ := cells_item HKx5.out
  clear HKx5
  go_wp2_with fail
  exact bodyPost_ret (v := .tuple #[listV (some ⟨g, 0, none⟩) l.length l.length, .int .i64 0]) (by simp [results, Tryd.results8, go_sem, z0, z1, z2, z3, u0, u1, u2, u3]) rfl
    ⟨_, rfl, Lib.hid ⟨g, rfl, by have := HB5.out.size; omega, ((HG5.out.2.keep (set4_heap _ _ _ _ _ _ (by omega)) (fun i h _ => set4_heap _ _ _ _ _ _ (by omega))).keep (set4_heap _ _ _ _ _ _ (by omega)) (fun i h _ => set4_heap _ _ _ _ _ _ (by omega))).hi_eq (by simp [World.setCell])⟩, below_set4 (below_set4 HB5.out (by omega) _ _ _ _) (Nat.le_refl _) _ _ _ _⟩
end Go.Proofs.YthknkdphofjmhaaDoor.Prim
/- Sealing with a sum of 2 bytes. -/
namespace Go.Proofs.YthknkdphofjmhaaDoor.Prim
open Go.RowKit Wd Cb Eid EncB CbCopy CbList CbRight CbWrite CbLays

set_option maxRecDepth 100000 in
set_option maxHeartbeats 4000000 in
theorem seal_yes1 (l : List Itm) (A : Option Addr) (B c k : Nat) (w : World) (hv : ItemsV w 0 B l A) (hB : B ≤ w.heap.size) (hc : l.length ≤ c) (hm : c ≤ maxLen) (hk : k < l.length) (hE : (encs l).length ≤ 1000000000) (hd : deeps l ≤ 60000) (hT : Tabs w) (hS : Sz w) (ht : typ l[k] = 1) (hr : Cb.right (blank l 1) = true) :
    Calls Tryd.prog 8 #[.slice A l.length c, .int .i64 k] w fun e w' => ∃ v, e = .returned (.tuple #[v, .int .i64 0]) ∧ Hid (Laid w w' (withB l (sumB 1 (enc (blank l 1)))) v) ∧ Below w.heap.size w w' := by
  have hls := length_le_sizes l
  have hse := sizes_enc l
  have hwe := wides_enc l
  have hsk := size_at l k hk
  have hdk := deep_at l k hk
  have HB0 := Lib.hid ((Below.refl w.heap.size w).alloc (Nat.le_refl _) (.cells #[.int .i64 0, .int .u64 0, .slice none 0 0, .slice none 0 0] 26))
  have HK0 := Lib.hid (Blk.new w 26 #[.int .i64 0, .int .u64 0, .slice none 0 0, .slice none 0 0])
  have HV := Lib.hid (fun (W : World) (h : Below w.heap.size w W) => hv.below (h.mono hB))
  have HTW := Lib.hid (fun (W : World) (h : Below w.heap.size w W) => And.intro (hT.below h (Nat.le_refl _)) (hS.below h (Nat.le_refl _)))
  have CS := Lib.hid (sumSize_any l A B c k _ (HV.out _ HB0.out) (by have := HB0.out.size; omega) hk hc hm (by omega) (by omega) (HTW.out _ HB0.out).2)
  rw [ht] at CS
  have j0 : (0 : Int) ≤ (k : Int) := by omega
  have j1 : (k : Int) < (l.length : Int) := by omega
  have d0 : decide ((k : Int) < 0) = false := decide_eq_false (by omega)
  have d1 : decide ((l.length : Int) ≤ (k : Int)) = false := decide_eq_false (by omega)
  have d2 : decide (l.length ≤ k) = false := decide_eq_false (by omega)
  have hz0 : w.heap.size < (w.alloc (.cells #[.int .i64 0, .int .u64 0, .slice none 0 0, .slice none 0 0] 26)).heap.size := by simp
  have HR := Lib.hid hr
  have CB := Lib.hid (fun (W : World) (h : Below w.heap.size w W) => blank_2 l A B c W (HV.out W h) (by have := h.size; omega) (by omega) hc hm (by omega))
  have hEL : (encs (l ++ [.mk 2 0 (zeros 2) []])).length ≤ 1000000100 := by
    have := encs_with_len l (zeros 2); have a3 : (zeros 2).length = 2 := by simp [zeros]
    omega
  have hen : (enc (withB l (zeros 2))).length ≤ 1000000200 := by
    have h1 := enc_lst_len (l ++ [.mk 2 0 (zeros 2) []])
    have h2 : (enc (withB l (zeros 2))).length ≤ 9 + (encs (l ++ [.mk 2 0 (zeros 2) []])).length := h1
    omega
  have hen2 : (enc (withB l (zeros 2))).length ≤ 100000000000000 := by omega
  have hen3 : (enc (withB l (zeros 2))).length ≤ 18446744073709551615 := by omega
  have hwL : wides (l ++ [.mk 2 0 (zeros 2) []]) ≤ 100000000000000 := by have := wides_enc (l ++ [.mk 2 0 (zeros 2) []]); omega
  have hsL : sizes (l ++ [.mk 2 0 (zeros 2) []]) ≤ 2147483647 := by have := sizes_enc (l ++ [.mk 2 0 (zeros 2) []]); omega
  have hdL : deeps (l ++ [.mk 2 0 (zeros 2) []]) ≤ 65537 := by
    simp only [deeps_append, deeps, deep]; omega
  have CW := Lib.hid (fun (W : World) (A2 : Option Addr) (c2 : Nat) (h : Below w.heap.size w W) (hi : ItemsV W 0 W.heap.size (l ++ [.mk 2 0 (zeros 2) []]) A2) (h1 : (l.length + 1) ≤ c2) (h2 : c2 ≤ maxLen) =>
    write_yes (withB l (zeros 2)) (listV A2 (l.length + 1) c2) W.heap.size W (item_list hi (by simp) h1 h2) (Nat.le_refl _) (HTW.out W h).1 hr hen2)
  have CLs := Lib.hid (fun (W : World) (A2 : Option Addr) (c2 : Nat) (hi : ItemsV W 0 W.heap.size (l ++ [.mk 2 0 (zeros 2) []]) A2) (h1 : (l.length + 1) ≤ c2) (h2 : c2 ≤ maxLen) =>
    show Calls Tryd.prog 33 #[.slice A2 (l.length + 1) c2] W (fun e w' => ∃ g, e = .returned (listV (some ⟨g, 0, none⟩) (l.length + 1) (l.length + 1)) ∧ Hid (W.heap.size ≤ g ∧ Row w' g (g + 1) w'.heap.size (l ++ [.mk 2 0 (zeros 2) []])) ∧ Below W.heap.size W w') from by
      have := list_lays (l ++ [.mk 2 0 (zeros 2) []]) A2 W.heap.size c2 W (by simp) hi (Nat.le_refl _) (by simpa using h1) h2 hwL hsL hdL
      simpa using this)
  have HBT := Lib.hid (fun (W : World) (lo hi : Nat) (v : Value) (h : ItemV W lo hi (withB l (zeros 2)) v) => EncB.enc_bts _ (right_fine hr) (sane_of h) hen3)
  have hlm : l.length + 1 ≤ maxLen := by unfold maxLen; omega
  have hcm := hm
  have HEN := Lib.hid (show (enc (withB l (zeros 2))).length ≤ maxLen by unfold maxLen; omega)
  clear hv hT hS hE hd hls hse hwe hsk hdk hwL hsL hdL hr HV hen hEL hen2 hen3
  go_enter Tryd.func8, Tryd.ntmps8
  go_wp2_with fail
  refine CS.out.mono ?_
  rintro e w1 ⟨rfl, hb1⟩
  rw [show szv 1 = 2 from rfl, show decide ((0 : Int) ≤ 1) = true from rfl]
  have HB1 := Lib.hid (below_next HB0.out HB0.out.size hb1)
  have HK1 := Lib.hid (HK0.out.next hb1)
  have hz1 : w.heap.size < w1.heap.size := Nat.lt_of_lt_of_le hz0 hb1.size
  clear hb1 CS HK0 HB0 hz0
  go_wp2_with fail
  refine (CB.out _ HB1.out).mono ?_
  rintro e w2 ⟨A2, c2, rfl, ⟨hc1, hc2⟩, HI2, hb2⟩
  have HB2 := Lib.hid (below_next HB1.out HB1.out.size hb2)
  have HK2 := Lib.hid (HK1.out.next hb2)
  have hz2 : w.heap.size < w2.heap.size := Nat.lt_of_lt_of_le hz1 hb2.size
  clear hb2 CB HB1 HK1
  have HKx := Lib.hid (Blk.new w2 26 #[.int .i64 4, .int .u64 0, .slice none 0 0, .slice A2 (l.length + 1) c2])
  have HB3 := Lib.hid (HB2.out.alloc HB2.out.size (.cells #[.int .i64 4, .int .u64 0, .slice none 0 0, .slice A2 (l.length + 1) c2] 26))
  have HK3 := Lib.hid (HK2.out.alloc (.cells #[.int .i64 4, .int .u64 0, .slice none 0 0, .slice A2 (l.length + 1) c2] 26))
  have HI3 := Lib.hid ((HI2.out.alloc (Nat.le_refl _) (.cells #[.int .i64 4, .int .u64 0, .slice none 0 0, .slice A2 (l.length + 1) c2] 26)).more (lo' := 0) (hi' := (w2.alloc (.cells #[.int .i64 4, .int .u64 0, .slice none 0 0, .slice A2 (l.length + 1) c2] 26)).heap.size) (Nat.le_refl _) (by simp))
  have hz3 : w2.heap.size < (w2.alloc (.cells #[.int .i64 4, .int .u64 0, .slice none 0 0, .slice A2 (l.length + 1) c2] 26)).heap.size := by simp
  have HW3 := Lib.hid (CW.out _ A2 c2 HB3.out HI3.out hc1 hc2)
  clear HI2 HB2 HK2 CW
  go_wp2_with fail
  generalize w2.alloc (.cells #[.int .i64 4, .int .u64 0, .slice none 0 0, .slice A2 (l.length + 1) c2] 26) = w3 at *
  refine HW3.out.mono ?_
  rintro e w4 ⟨Ab, rfl, HSb, hb4⟩
  have HB4 := Lib.hid (below_next HB3.out HB3.out.size hb4)
  have HK4 := Lib.hid (HK3.out.next hb4)
  have HKx4 := Lib.hid (HKx.out.next hb4)
  have HI4 := Lib.hid ((HI3.out.below hb4).more (Nat.le_refl _) hb4.size)
  have HL4 := Lib.hid (CLs.out w4 A2 c2 HI4.out hc1 hc2)
  have hz4 : w3.heap.size ≤ w4.heap.size := hb4.size
  obtain ⟨⟨x0, x1, x2, x3⟩, y0, y1, y2, y3⟩ := cells_item HKx4.out
  have HBy := Lib.hid (HBT.out _ _ _ _ (item_list HI3.out (by simp) hc1 hc2))
  clear hb4 HW3 HB3 HK3 HKx HI3 CLs
  go_wp2_with fail
  refine HL4.out.mono ?_
  rintro e w5 ⟨g, rfl, HG5, hb5⟩
  have HB5 := Lib.hid (below_next HB4.out HB4.out.size hb5)
  have HK5 := Lib.hid (HK4.out.next hb5)
  have HKx5 := Lib.hid (HKx4.out.next hb5)
  have hz5 : w4.heap.size ≤ w5.heap.size := hb5.size
  obtain ⟨⟨x0, x1, x2, x3⟩, y0, y1, y2, y3⟩ := cells_item HKx5.out
  obtain ⟨⟨z0, z1, z2, z3⟩, u0, u1, u2, u3⟩ := cells_item HK5.out
  have hg5 := HG5.out.1
  obtain ⟨vs, spare, hblk, hlays⟩ := HG5.out.2
  obtain ⟨m, vs', cz, rfl, hl1, ⟨AB, A', rfl, -, -, -, -, hown, -, -⟩, hm1⟩ := hlays.last_
  rcases hown with hbad | ⟨gB, csB, rfl, hg1, hg2, hbB, hsB, -⟩
  · simp [Itm.bs, zeros] at hbad
  have hvl' := hl1.reps.length
  have hgm := hl1.le
  have hzl : (zeros 2).length = 2 := by simp [zeros]
  simp only [Itm.bs, Itm.sub, Itm.kind, Itm.num, hzl, List.length_nil] at hblk hsB
  have HBk := Lib.hid hblk
  have HLy := Lib.hid hl1
  have HBB := Lib.hid hbB
  have r2 : Hid (∀ W : World, W.heap[g]? = w5.heap[g]? → W.cell? ⟨g, l.length * 4 + 2, none⟩ = some (.slice (some ⟨gB, 0, none⟩) 2 2)) := Lib.hid (fun W h => by
    rw [(show Blk W g _ _ from h.trans HBk.out).cell]
    simp [hvl'])
  have hgl := HBk.out.lt
  have HSb5 := Lib.hid (HSb.out.below hb5)
  clear hb5 HL4 HB4 HK4 HKx4 HI4 HG5 hblk hl1 hbB hlays hvl' hzl x0 x1 x2 x3 y0 y1 y2 y3 z0 z1 z2 z3 u0 u1 u2 u3
  have hgne : g ≠ w2.heap.size := by omega
  have hgne' : ¬ g = w2.heap.size := hgne
  have e2 := r2.out w5 rfl
  have HB6 := Lib.hid (below_set4 HB5.out (show w.heap.size ≤ w2.heap.size by omega) (.int .i64 4) (.int .u64 0) (.slice none 0 0) (.slice (some ⟨g, 0, none⟩) (l.length + 1) (l.length + 1)))
  have HS4 := Lib.hid (fun (i : Nat) (h : i ≠ w2.heap.size) => set4_heap w5 w2.heap.size (.int .i64 4) (.int .u64 0) (.slice none 0 0) (.slice (some ⟨g, 0, none⟩) (l.length + 1) (l.length + 1)) h)
  have HKx6 := Lib.hid (Blk.set_ (Blk.set_ (Blk.set_ (Blk.set_ HKx5.out 0 (.int .i64 4)) 1 (.int .u64 0)) 2 (.slice none 0 0)) 3 (.slice (some ⟨g, 0, none⟩) (l.length + 1) (l.length + 1)))
  have hz6 : ((((w5.setCell ⟨w2.heap.size, 0, none⟩ (.int .i64 4)).setCell ⟨w2.heap.size, 1, none⟩ (.int .u64 0)).setCell ⟨w2.heap.size, 2, none⟩ (.slice none 0 0)).setCell ⟨w2.heap.size, 3, none⟩ (.slice (some ⟨g, 0, none⟩) (l.length + 1) (l.length + 1))).heap.size = w5.heap.size := by simp [World.setCell]
  have HSb6 := Lib.hid (((HSb5.out).set4 (b := w2.heap.size) (.inl (by omega)) (.int .i64 4) (.int .u64 0) (.slice none 0 0) (.slice (some ⟨g, 0, none⟩) (l.length + 1) (l.length + 1))).lst)
  have HF := Lib.hid (fun (W : World) (hb : Blk W gB 5 csB) (hs : Lst W w4.heap.size Ab (u8s (enc (withB l (zeros 2))))) (hSz : Sz W) => show Calls Tryd.prog 34 #[.slice (some ⟨gB, 0, none⟩) 2 2, .slice Ab (enc (withB l (zeros 2))).length (enc (withB l (zeros 2))).length] W (fun e w' => e = .returned (.tuple #[]) ∧ Put w' gB 5 csB (2 * 1) (2 * 1) (sumOf 1 (enc (withB l (zeros 2)))) ∧ W.grownBy w' (some gB)) from
    fill_any 1 gB 2 _ w4.heap.size 5 csB Ab (enc (withB l (zeros 2))) W (by omega) hb hsB (by omega) (by unfold maxLen; omega) hs HBy.out HEN.out hSz)
  obtain ⟨⟨x0, x1, x2, x3⟩, y0, y1, y2, y3⟩ := cells_item HKx5.out
  clear HKx5 HSb5 HSb HBy
  go_upto_region 12 with (fail)
  generalize (((w5.setCell ⟨w2.heap.size, 0, none⟩ (.int .i64 4)).setCell ⟨w2.heap.size, 1, none⟩ (.int .u64 0)).setCell ⟨w2.heap.size, 2, none⟩ (.slice none 0 0)).setCell ⟨w2.heap.size, 3, none⟩ (.slice (some ⟨g, 0, none⟩) (l.length + 1) (l.length + 1)) = w6 at *
  have HKy : Hid (Blk w6 w2.heap.size 26 #[.int .i64 4, .int .u64 0, .slice none 0 0, .slice (some ⟨g, 0, none⟩) (l.length + 1) (l.length + 1)]) := Lib.hid HKx6.out
  have HK6 := Lib.hid ((HS4.out w.heap.size (by omega)).trans HK5.out)
  have HBk6 := Lib.hid ((HS4.out g hgne).trans HBk.out)
  have HLy6 := Lib.hid (HLy.out.keep (w' := w6) fun i h1 h2 => HS4.out i (by omega))
  have e2 := r2.out w6 (HS4.out g hgne)
  have HF6 := Lib.hid (HF.out w6 ((HS4.out gB (by omega)).trans HBB.out) HSb6.out (HTW.out w6 HB6.out).2)
  obtain ⟨⟨x0, x1, x2, x3⟩, y0, y1, y2, y3⟩ := cells_item HKy.out
  have HZ6 := Lib.hid hz6
  clear HF HSb6 HTW HKx6 HK5 HBk HLy r2 HBB HS4 hz6
  go_wp2_with fail
  refine HF6.out.mono ?_
  rintro e w7 ⟨rfl, hp, hg⟩
  have hsz7 := hg.size
  have kp : ∀ i, i < w6.heap.size → i ≠ gB → w7.heap[i]? = w6.heap[i]? := fun i h1 h2 => hg.block i h1 (fun e => h2 (by injection e))
  have hz6 := HZ6.out
  have HK7 := Lib.hid ((kp w.heap.size (by omega) (by omega)).trans HK6.out)
  have HKy7 := Lib.hid ((kp w2.heap.size (by omega) (by omega)).trans HKy.out)
  have HR7 := Lib.hid (row_filled (q := 1) (by omega) HBk6.out HLy6.out hg1 (by omega) hsB hp hg)
  have HB7 := Lib.hid (below_row HB6.out hg (by omega) (by omega))
  clear hp kp HF6 HK6 HKy HBk6 HLy6 HB6 x0 x1 x2 x3 y0 y1 y2 y3 e2 hg HZ6
  obtain ⟨⟨x0, x1, x2, x3⟩, y0, y1, y2, y3⟩ := cells_item (t := 26) HKy7.out
  obtain ⟨⟨z0, z1, z2, z3⟩, u0, u1, u2, u3⟩ := cells_item (t := 26) HK7.out
  clear HKy7 HK7
  go_wp2_with fail
  exact bodyPost_ret (v := .tuple #[listV (some ⟨g, 0, none⟩) (l.length + 1) (l.length + 1), .int .i64 0]) (by simp [results, Tryd.results8, go_sem, z0, z1, z2, z3, u0, u1, u2, u3]) rfl
    ⟨_, rfl, Lib.hid ⟨g, listV_len (by show (l ++ [_]).length = _; simp), by have := HB5.out.size; omega, (HR7.out.keep (set4_heap _ _ _ _ _ _ (by omega)) (fun i h _ => set4_heap _ _ _ _ _ _ (by omega))).hi_eq (by simp [World.setCell])⟩, below_set4 HB7.out (Nat.le_refl _) _ _ _ _⟩
end Go.Proofs.YthknkdphofjmhaaDoor.Prim
/- Sealing with a sum of 4 bytes. -/
namespace Go.Proofs.YthknkdphofjmhaaDoor.Prim
open Go.RowKit Wd Cb Eid EncB CbCopy CbList CbRight CbWrite CbLays

set_option maxRecDepth 100000 in
set_option maxHeartbeats 4000000 in
theorem seal_yes2 (l : List Itm) (A : Option Addr) (B c k : Nat) (w : World) (hv : ItemsV w 0 B l A) (hB : B ≤ w.heap.size) (hc : l.length ≤ c) (hm : c ≤ maxLen) (hk : k < l.length) (hE : (encs l).length ≤ 1000000000) (hd : deeps l ≤ 60000) (hT : Tabs w) (hS : Sz w) (ht : typ l[k] = 2) (hr : Cb.right (blank l 2) = true) :
    Calls Tryd.prog 8 #[.slice A l.length c, .int .i64 k] w fun e w' => ∃ v, e = .returned (.tuple #[v, .int .i64 0]) ∧ Hid (Laid w w' (withB l (sumB 2 (enc (blank l 2)))) v) ∧ Below w.heap.size w w' := by
  have hls := length_le_sizes l
  have hse := sizes_enc l
  have hwe := wides_enc l
  have hsk := size_at l k hk
  have hdk := deep_at l k hk
  have HB0 := Lib.hid ((Below.refl w.heap.size w).alloc (Nat.le_refl _) (.cells #[.int .i64 0, .int .u64 0, .slice none 0 0, .slice none 0 0] 26))
  have HK0 := Lib.hid (Blk.new w 26 #[.int .i64 0, .int .u64 0, .slice none 0 0, .slice none 0 0])
  have HV := Lib.hid (fun (W : World) (h : Below w.heap.size w W) => hv.below (h.mono hB))
  have HTW := Lib.hid (fun (W : World) (h : Below w.heap.size w W) => And.intro (hT.below h (Nat.le_refl _)) (hS.below h (Nat.le_refl _)))
  have CS := Lib.hid (sumSize_any l A B c k _ (HV.out _ HB0.out) (by have := HB0.out.size; omega) hk hc hm (by omega) (by omega) (HTW.out _ HB0.out).2)
  rw [ht] at CS
  have j0 : (0 : Int) ≤ (k : Int) := by omega
  have j1 : (k : Int) < (l.length : Int) := by omega
  have d0 : decide ((k : Int) < 0) = false := decide_eq_false (by omega)
  have d1 : decide ((l.length : Int) ≤ (k : Int)) = false := decide_eq_false (by omega)
  have d2 : decide (l.length ≤ k) = false := decide_eq_false (by omega)
  have hz0 : w.heap.size < (w.alloc (.cells #[.int .i64 0, .int .u64 0, .slice none 0 0, .slice none 0 0] 26)).heap.size := by simp
  have HR := Lib.hid hr
  have CB := Lib.hid (fun (W : World) (h : Below w.heap.size w W) => blank_4 l A B c W (HV.out W h) (by have := h.size; omega) (by omega) hc hm (by omega))
  have hEL : (encs (l ++ [.mk 2 0 (zeros 4) []])).length ≤ 1000000100 := by
    have := encs_with_len l (zeros 4); have a3 : (zeros 4).length = 4 := by simp [zeros]
    omega
  have hen : (enc (withB l (zeros 4))).length ≤ 1000000200 := by
    have h1 := enc_lst_len (l ++ [.mk 2 0 (zeros 4) []])
    have h2 : (enc (withB l (zeros 4))).length ≤ 9 + (encs (l ++ [.mk 2 0 (zeros 4) []])).length := h1
    omega
  have hen2 : (enc (withB l (zeros 4))).length ≤ 100000000000000 := by omega
  have hen3 : (enc (withB l (zeros 4))).length ≤ 18446744073709551615 := by omega
  have hwL : wides (l ++ [.mk 2 0 (zeros 4) []]) ≤ 100000000000000 := by have := wides_enc (l ++ [.mk 2 0 (zeros 4) []]); omega
  have hsL : sizes (l ++ [.mk 2 0 (zeros 4) []]) ≤ 2147483647 := by have := sizes_enc (l ++ [.mk 2 0 (zeros 4) []]); omega
  have hdL : deeps (l ++ [.mk 2 0 (zeros 4) []]) ≤ 65537 := by
    simp only [deeps_append, deeps, deep]; omega
  have CW := Lib.hid (fun (W : World) (A2 : Option Addr) (c2 : Nat) (h : Below w.heap.size w W) (hi : ItemsV W 0 W.heap.size (l ++ [.mk 2 0 (zeros 4) []]) A2) (h1 : (l.length + 1) ≤ c2) (h2 : c2 ≤ maxLen) =>
    write_yes (withB l (zeros 4)) (listV A2 (l.length + 1) c2) W.heap.size W (item_list hi (by simp) h1 h2) (Nat.le_refl _) (HTW.out W h).1 hr hen2)
  have CLs := Lib.hid (fun (W : World) (A2 : Option Addr) (c2 : Nat) (hi : ItemsV W 0 W.heap.size (l ++ [.mk 2 0 (zeros 4) []]) A2) (h1 : (l.length + 1) ≤ c2) (h2 : c2 ≤ maxLen) =>
    show Calls Tryd.prog 33 #[.slice A2 (l.length + 1) c2] W (fun e w' => ∃ g, e = .returned (listV (some ⟨g, 0, none⟩) (l.length + 1) (l.length + 1)) ∧ Hid (W.heap.size ≤ g ∧ Row w' g (g + 1) w'.heap.size (l ++ [.mk 2 0 (zeros 4) []])) ∧ Below W.heap.size W w') from by
      have := list_lays (l ++ [.mk 2 0 (zeros 4) []]) A2 W.heap.size c2 W (by simp) hi (Nat.le_refl _) (by simpa using h1) h2 hwL hsL hdL
      simpa using this)
  have HBT := Lib.hid (fun (W : World) (lo hi : Nat) (v : Value) (h : ItemV W lo hi (withB l (zeros 4)) v) => EncB.enc_bts _ (right_fine hr) (sane_of h) hen3)
  have hlm : l.length + 1 ≤ maxLen := by unfold maxLen; omega
  have hcm := hm
  have HEN := Lib.hid (show (enc (withB l (zeros 4))).length ≤ maxLen by unfold maxLen; omega)
  clear hv hT hS hE hd hls hse hwe hsk hdk hwL hsL hdL hr HV hen hEL hen2 hen3
  go_enter Tryd.func8, Tryd.ntmps8
  go_wp2_with fail
  refine CS.out.mono ?_
  rintro e w1 ⟨rfl, hb1⟩
  rw [show szv 2 = 4 from rfl, show decide ((0 : Int) ≤ 2) = true from rfl]
  have HB1 := Lib.hid (below_next HB0.out HB0.out.size hb1)
  have HK1 := Lib.hid (HK0.out.next hb1)
  have hz1 : w.heap.size < w1.heap.size := Nat.lt_of_lt_of_le hz0 hb1.size
  clear hb1 CS HK0 HB0 hz0
  go_wp2_with fail
  refine (CB.out _ HB1.out).mono ?_
  rintro e w2 ⟨A2, c2, rfl, ⟨hc1, hc2⟩, HI2, hb2⟩
  have HB2 := Lib.hid (below_next HB1.out HB1.out.size hb2)
  have HK2 := Lib.hid (HK1.out.next hb2)
  have hz2 : w.heap.size < w2.heap.size := Nat.lt_of_lt_of_le hz1 hb2.size
  clear hb2 CB HB1 HK1
  have HKx := Lib.hid (Blk.new w2 26 #[.int .i64 4, .int .u64 0, .slice none 0 0, .slice A2 (l.length + 1) c2])
  have HB3 := Lib.hid (HB2.out.alloc HB2.out.size (.cells #[.int .i64 4, .int .u64 0, .slice none 0 0, .slice A2 (l.length + 1) c2] 26))
  have HK3 := Lib.hid (HK2.out.alloc (.cells #[.int .i64 4, .int .u64 0, .slice none 0 0, .slice A2 (l.length + 1) c2] 26))
  have HI3 := Lib.hid ((HI2.out.alloc (Nat.le_refl _) (.cells #[.int .i64 4, .int .u64 0, .slice none 0 0, .slice A2 (l.length + 1) c2] 26)).more (lo' := 0) (hi' := (w2.alloc (.cells #[.int .i64 4, .int .u64 0, .slice none 0 0, .slice A2 (l.length + 1) c2] 26)).heap.size) (Nat.le_refl _) (by simp))
  have hz3 : w2.heap.size < (w2.alloc (.cells #[.int .i64 4, .int .u64 0, .slice none 0 0, .slice A2 (l.length + 1) c2] 26)).heap.size := by simp
  have HW3 := Lib.hid (CW.out _ A2 c2 HB3.out HI3.out hc1 hc2)
  clear HI2 HB2 HK2 CW
  go_wp2_with fail
  generalize w2.alloc (.cells #[.int .i64 4, .int .u64 0, .slice none 0 0, .slice A2 (l.length + 1) c2] 26) = w3 at *
  refine HW3.out.mono ?_
  rintro e w4 ⟨Ab, rfl, HSb, hb4⟩
  have HB4 := Lib.hid (below_next HB3.out HB3.out.size hb4)
  have HK4 := Lib.hid (HK3.out.next hb4)
  have HKx4 := Lib.hid (HKx.out.next hb4)
  have HI4 := Lib.hid ((HI3.out.below hb4).more (Nat.le_refl _) hb4.size)
  have HL4 := Lib.hid (CLs.out w4 A2 c2 HI4.out hc1 hc2)
  have hz4 : w3.heap.size ≤ w4.heap.size := hb4.size
  obtain ⟨⟨x0, x1, x2, x3⟩, y0, y1, y2, y3⟩ := cells_item HKx4.out
  have HBy := Lib.hid (HBT.out _ _ _ _ (item_list HI3.out (by simp) hc1 hc2))
  clear hb4 HW3 HB3 HK3 HKx HI3 CLs
  go_wp2_with fail
  refine HL4.out.mono ?_
  rintro e w5 ⟨g, rfl, HG5, hb5⟩
  have HB5 := Lib.hid (below_next HB4.out HB4.out.size hb5)
  have HK5 := Lib.hid (HK4.out.next hb5)
  have HKx5 := Lib.hid (HKx4.out.next hb5)
  have hz5 : w4.heap.size ≤ w5.heap.size := hb5.size
  obtain ⟨⟨x0, x1, x2, x3⟩, y0, y1, y2, y3⟩ := cells_item HKx5.out
  obtain ⟨⟨z0, z1, z2, z3⟩, u0, u1, u2, u3⟩ := cells_item HK5.out
  have hg5 := HG5.out.1
  obtain ⟨vs, spare, hblk, hlays⟩ := HG5.out.2
  obtain ⟨m, vs', cz, rfl, hl1, ⟨AB, A', rfl, -, -, -, -, hown, -, -⟩, hm1⟩ := hlays.last_
  rcases hown with hbad | ⟨gB, csB, rfl, hg1, hg2, hbB, hsB, -⟩
  · simp [Itm.bs, zeros] at hbad
  have hvl' := hl1.reps.length
  have hgm := hl1.le
  have hzl : (zeros 4).length = 4 := by simp [zeros]
  simp only [Itm.bs, Itm.sub, Itm.kind, Itm.num, hzl, List.length_nil] at hblk hsB
  have HBk := Lib.hid hblk
  have HLy := Lib.hid hl1
  have HBB := Lib.hid hbB
  have r2 : Hid (∀ W : World, W.heap[g]? = w5.heap[g]? → W.cell? ⟨g, l.length * 4 + 2, none⟩ = some (.slice (some ⟨gB, 0, none⟩) 4 4)) := Lib.hid (fun W h => by
    rw [(show Blk W g _ _ from h.trans HBk.out).cell]
    simp [hvl'])
  have hgl := HBk.out.lt
  have HSb5 := Lib.hid (HSb.out.below hb5)
  clear hb5 HL4 HB4 HK4 HKx4 HI4 HG5 hblk hl1 hbB hlays hvl' hzl x0 x1 x2 x3 y0 y1 y2 y3 z0 z1 z2 z3 u0 u1 u2 u3
  have hgne : g ≠ w2.heap.size := by omega
  have hgne' : ¬ g = w2.heap.size := hgne
  have e2 := r2.out w5 rfl
  have HB6 := Lib.hid (below_set4 HB5.out (show w.heap.size ≤ w2.heap.size by omega) (.int .i64 4) (.int .u64 0) (.slice none 0 0) (.slice (some ⟨g, 0, none⟩) (l.length + 1) (l.length + 1)))
  have HS4 := Lib.hid (fun (i : Nat) (h : i ≠ w2.heap.size) => set4_heap w5 w2.heap.size (.int .i64 4) (.int .u64 0) (.slice none 0 0) (.slice (some ⟨g, 0, none⟩) (l.length + 1) (l.length + 1)) h)
  have HKx6 := Lib.hid (Blk.set_ (Blk.set_ (Blk.set_ (Blk.set_ HKx5.out 0 (.int .i64 4)) 1 (.int .u64 0)) 2 (.slice none 0 0)) 3 (.slice (some ⟨g, 0, none⟩) (l.length + 1) (l.length + 1)))
  have hz6 : ((((w5.setCell ⟨w2.heap.size, 0, none⟩ (.int .i64 4)).setCell ⟨w2.heap.size, 1, none⟩ (.int .u64 0)).setCell ⟨w2.heap.size, 2, none⟩ (.slice none 0 0)).setCell ⟨w2.heap.size, 3, none⟩ (.slice (some ⟨g, 0, none⟩) (l.length + 1) (l.length + 1))).heap.size = w5.heap.size := by simp [World.setCell]
  have HSb6 := Lib.hid (((HSb5.out).set4 (b := w2.heap.size) (.inl (by omega)) (.int .i64 4) (.int .u64 0) (.slice none 0 0) (.slice (some ⟨g, 0, none⟩) (l.length + 1) (l.length + 1))).lst)
  have HF := Lib.hid (fun (W : World) (hb : Blk W gB 5 csB) (hs : Lst W w4.heap.size Ab (u8s (enc (withB l (zeros 4))))) (hSz : Sz W) => show Calls Tryd.prog 34 #[.slice (some ⟨gB, 0, none⟩) 4 4, .slice Ab (enc (withB l (zeros 4))).length (enc (withB l (zeros 4))).length] W (fun e w' => e = .returned (.tuple #[]) ∧ Put w' gB 5 csB (2 * 2) (2 * 2) (sumOf 2 (enc (withB l (zeros 4)))) ∧ W.grownBy w' (some gB)) from
    fill_any 2 gB 4 _ w4.heap.size 5 csB Ab (enc (withB l (zeros 4))) W (by omega) hb hsB (by omega) (by unfold maxLen; omega) hs HBy.out HEN.out hSz)
  obtain ⟨⟨x0, x1, x2, x3⟩, y0, y1, y2, y3⟩ := cells_item HKx5.out
  clear HKx5 HSb5 HSb HBy
  go_upto_region 12 with (fail)
  generalize (((w5.setCell ⟨w2.heap.size, 0, none⟩ (.int .i64 4)).setCell ⟨w2.heap.size, 1, none⟩ (.int .u64 0)).setCell ⟨w2.heap.size, 2, none⟩ (.slice none 0 0)).setCell ⟨w2.heap.size, 3, none⟩ (.slice (some ⟨g, 0, none⟩) (l.length + 1) (l.length + 1)) = w6 at *
  have HKy : Hid (Blk w6 w2.heap.size 26 #[.int .i64 4, .int .u64 0, .slice none 0 0, .slice (some ⟨g, 0, none⟩) (l.length + 1) (l.length + 1)]) := Lib.hid HKx6.out
  have HK6 := Lib.hid ((HS4.out w.heap.size (by omega)).trans HK5.out)
  have HBk6 := Lib.hid ((HS4.out g hgne).trans HBk.out)
  have HLy6 := Lib.hid (HLy.out.keep (w' := w6) fun i h1 h2 => HS4.out i (by omega))
  have e2 := r2.out w6 (HS4.out g hgne)
  have HF6 := Lib.hid (HF.out w6 ((HS4.out gB (by omega)).trans HBB.out) HSb6.out (HTW.out w6 HB6.out).2)
  obtain ⟨⟨x0, x1, x2, x3⟩, y0, y1, y2, y3⟩ := cells_item HKy.out
  have HZ6 := Lib.hid hz6
  clear HF HSb6 HTW HKx6 HK5 HBk HLy r2 HBB HS4 hz6
  go_wp2_with fail
  refine HF6.out.mono ?_
  rintro e w7 ⟨rfl, hp, hg⟩
  have hsz7 := hg.size
  have kp : ∀ i, i < w6.heap.size → i ≠ gB → w7.heap[i]? = w6.heap[i]? := fun i h1 h2 => hg.block i h1 (fun e => h2 (by injection e))
  have hz6 := HZ6.out
  have HK7 := Lib.hid ((kp w.heap.size (by omega) (by omega)).trans HK6.out)
  have HKy7 := Lib.hid ((kp w2.heap.size (by omega) (by omega)).trans HKy.out)
  have HR7 := Lib.hid (row_filled (q := 2) (by omega) HBk6.out HLy6.out hg1 (by omega) hsB hp hg)
  have HB7 := Lib.hid (below_row HB6.out hg (by omega) (by omega))
  clear hp kp HF6 HK6 HKy HBk6 HLy6 HB6 x0 x1 x2 x3 y0 y1 y2 y3 e2 hg HZ6
  obtain ⟨⟨x0, x1, x2, x3⟩, y0, y1, y2, y3⟩ := cells_item (t := 26) HKy7.out
  obtain ⟨⟨z0, z1, z2, z3⟩, u0, u1, u2, u3⟩ := cells_item (t := 26) HK7.out
  clear HKy7 HK7
  go_wp2_with fail
  exact bodyPost_ret (v := .tuple #[listV (some ⟨g, 0, none⟩) (l.length + 1) (l.length + 1), .int .i64 0]) (by simp [results, Tryd.results8, go_sem, z0, z1, z2, z3, u0, u1, u2, u3]) rfl
    ⟨_, rfl, Lib.hid ⟨g, listV_len (by show (l ++ [_]).length = _; simp), by have := HB5.out.size; omega, (HR7.out.keep (set4_heap _ _ _ _ _ _ (by omega)) (fun i h _ => set4_heap _ _ _ _ _ _ (by omega))).hi_eq (by simp [World.setCell])⟩, below_set4 HB7.out (Nat.le_refl _) _ _ _ _⟩
end Go.Proofs.YthknkdphofjmhaaDoor.Prim
/- Sealing, whatever comes: the contract of Seal. -/
namespace Go.Proofs.YthknkdphofjmhaaDoor.Prim
open Go.RowKit Wd Cb Eid EncB CbCopy CbList CbRight CbWrite CbLays

set_option maxRecDepth 100000 in
set_option maxHeartbeats 4000000 in
theorem seal_out (n c : Nat) (A : Option Addr) (a : Int) (w : World) (h : a < 0 ∨ (n : Int) ≤ a) :
    Calls Tryd.prog 8 #[.slice A n c, .int .i64 a] w fun e w' => e = .returned (.tuple #[zeroV, .int .i64 1]) ∧ Below w.heap.size w w' := by
  rcases (show a < 0 ∨ (¬ a < 0 ∧ (n : Int) ≤ a) by omega) with h1 | ⟨h1, h2⟩
  · have d0 : decide (a < 0) = true := decide_eq_true h1
    go_enter Tryd.func8, Tryd.ntmps8
    go_wp2_with fail
    exact bodyPost_ret (v := .tuple #[zeroV, .int .i64 1]) (by simp [results, Tryd.results8, go_sem]) rfl ⟨rfl, (Below.refl w.heap.size w).alloc (Nat.le_refl _) _⟩
  · have d0 : decide (a < 0) = false := decide_eq_false h1
    have d1 : decide ((n : Int) ≤ a) = true := decide_eq_true h2
    go_enter Tryd.func8, Tryd.ntmps8
    go_wp2_with fail
    exact bodyPost_ret (v := .tuple #[zeroV, .int .i64 1]) (by simp [results, Tryd.results8, go_sem]) rfl ⟨rfl, (Below.refl w.heap.size w).alloc (Nat.le_refl _) _⟩

set_option maxRecDepth 100000 in
set_option maxHeartbeats 4000000 in
theorem seal_form (l : List Itm) (A : Option Addr) (B c k : Nat) (w : World) (hv : ItemsV w 0 B l A) (hB : B ≤ w.heap.size) (hc : l.length ≤ c) (hm : c ≤ maxLen) (hk : k < l.length) (hE : (encs l).length ≤ 1000000000) (hd : deeps l ≤ 60000) (hS : Sz w) (ht : typ l[k] = -1) :
    Calls Tryd.prog 8 #[.slice A l.length c, .int .i64 k] w fun e w' => e = .returned (.tuple #[zeroV, .int .i64 3]) ∧ Below w.heap.size w w' := by
  have hse := sizes_enc l
  have hsk := size_at l k hk
  have hdk := deep_at l k hk
  have HB0 := Lib.hid ((Below.refl w.heap.size w).alloc (Nat.le_refl _) (.cells #[.int .i64 0, .int .u64 0, .slice none 0 0, .slice none 0 0] 26))
  have HK0 := Lib.hid (Blk.new w 26 #[.int .i64 0, .int .u64 0, .slice none 0 0, .slice none 0 0])
  have CS := Lib.hid (sumSize_any l A B c k _ (hv.below (HB0.out.mono hB)) (by have := HB0.out.size; omega) hk hc hm (by omega) (by omega) (hS.below HB0.out (Nat.le_refl _)))
  rw [ht] at CS
  have j0 : (0 : Int) ≤ (k : Int) := by omega
  have j1 : (k : Int) < (l.length : Int) := by omega
  have d0 : decide ((k : Int) < 0) = false := decide_eq_false (by omega)
  have d1 : decide ((l.length : Int) ≤ (k : Int)) = false := decide_eq_false (by omega)
  have d2 : decide (l.length ≤ k) = false := decide_eq_false (by omega)
  clear hv hS hE hd hse hsk hdk
  go_enter Tryd.func8, Tryd.ntmps8
  go_wp2_with fail
  refine CS.out.mono ?_
  rintro e w1 ⟨rfl, hb1⟩
  rw [show szv (-1) = 0 from rfl, show decide ((0 : Int) ≤ -1) = false from rfl]
  have HB1 := Lib.hid (below_next HB0.out HB0.out.size hb1)
  obtain ⟨⟨z0, z1, z2, z3⟩, u0, u1, u2, u3⟩ := cells_item (HK0.out.next hb1)
  clear hb1 CS HK0 HB0
  go_wp2_with fail
  exact bodyPost_ret (v := .tuple #[zeroV, .int .i64 3]) (by simp [results, Tryd.results8, go_sem, z0, z1, z2, z3, u0, u1, u2, u3]) rfl ⟨rfl, below_set4 HB1.out (Nat.le_refl _) _ _ _ _⟩

set_option maxRecDepth 100000 in
set_option maxHeartbeats 4000000 in
theorem seal_no0 (l : List Itm) (A : Option Addr) (B c k : Nat) (w : World) (hv : ItemsV w 0 B l A) (hB : B ≤ w.heap.size) (hc : l.length ≤ c) (hm : c ≤ maxLen) (hk : k < l.length) (hE : (encs l).length ≤ 1000000000) (hd : deeps l ≤ 60000) (hT : Tabs w) (hS : Sz w) (ht : typ l[k] = 0) (hr : Cb.right (blank l 0) = false) :
    Calls Tryd.prog 8 #[.slice A l.length c, .int .i64 k] w fun e w' => e = .returned (.tuple #[zeroV, .int .i64 3]) ∧ Below w.heap.size w w' := by
  have hls := length_le_sizes l
  have hse := sizes_enc l
  have hsk := size_at l k hk
  have hdk := deep_at l k hk
  have HB0 := Lib.hid ((Below.refl w.heap.size w).alloc (Nat.le_refl _) (.cells #[.int .i64 0, .int .u64 0, .slice none 0 0, .slice none 0 0] 26))
  have HK0 := Lib.hid (Blk.new w 26 #[.int .i64 0, .int .u64 0, .slice none 0 0, .slice none 0 0])
  have HV := Lib.hid (fun (W : World) (h : Below w.heap.size w W) => hv.below (h.mono hB))
  have HTW := Lib.hid (fun (W : World) (h : Below w.heap.size w W) => hT.below h (Nat.le_refl _))
  have CS := Lib.hid (sumSize_any l A B c k _ (HV.out _ HB0.out) (by have := HB0.out.size; omega) hk hc hm (by omega) (by omega) (hS.below HB0.out (Nat.le_refl _)))
  rw [ht] at CS
  have j0 : (0 : Int) ≤ (k : Int) := by omega
  have j1 : (k : Int) < (l.length : Int) := by omega
  have d0 : decide ((k : Int) < 0) = false := decide_eq_false (by omega)
  have d1 : decide ((l.length : Int) ≤ (k : Int)) = false := decide_eq_false (by omega)
  have d2 : decide (l.length ≤ k) = false := decide_eq_false (by omega)
  have CB := Lib.hid (fun (W : World) => blank_none A l.length c W)
  have HI0 := Lib.hid (fun (W : World) (h : Below w.heap.size w W) => (HV.out W h).more (Nat.le_refl _) (show B ≤ W.heap.size by have := h.size; omega))
  have CW := Lib.hid (fun (W : World) (A2 : Option Addr) (c2 : Nat) (h : Below w.heap.size w W) (hi : ItemsV W 0 W.heap.size l A2) (h1 : l.length ≤ c2) (h2 : c2 ≤ maxLen) =>
    write_no (lst l) (listV A2 l.length c2) W.heap.size W (item_list hi rfl h1 h2) (Nat.le_refl _) (HTW.out W h) hr)
  have hcm := hm
  clear hv hT hS hE hd hls hse hsk hdk hr HV HTW
  go_enter Tryd.func8, Tryd.ntmps8
  go_wp2_with fail
  refine CS.out.mono ?_
  rintro e w1 ⟨rfl, hb1⟩
  rw [show szv 0 = 0 from rfl, show decide ((0 : Int) ≤ 0) = true from rfl]
  have HB1 := Lib.hid (below_next HB0.out HB0.out.size hb1)
  have HK1 := Lib.hid (HK0.out.next hb1)
  clear hb1 CS HK0 HB0
  go_wp2_with fail
  refine (CB.out _).mono ?_
  rintro e w1' ⟨rfl, rfl⟩
  have HI2 := Lib.hid (HI0.out _ HB1.out)
  have HB2 := HB1
  have HK2 := HK1
  have hc1 := hc
  have hc2 := hcm
  clear CB HI0
  have HB3 := Lib.hid (HB2.out.alloc HB2.out.size (.cells #[.int .i64 4, .int .u64 0, .slice none 0 0, .slice A l.length c] 26))
  have HK3 := Lib.hid (HK2.out.alloc (.cells #[.int .i64 4, .int .u64 0, .slice none 0 0, .slice A l.length c] 26))
  have HI3 := Lib.hid ((HI2.out.alloc (Nat.le_refl _) (.cells #[.int .i64 4, .int .u64 0, .slice none 0 0, .slice A l.length c] 26)).more (lo' := 0) (hi' := (w1.alloc (.cells #[.int .i64 4, .int .u64 0, .slice none 0 0, .slice A l.length c] 26)).heap.size) (Nat.le_refl _) (by simp))
  have HW3 := Lib.hid (CW.out _ A c HB3.out HI3.out hc1 hc2)
  clear HI2 HB2 HK2 CW HI3
  go_wp2_with fail
  generalize w1.alloc (.cells #[.int .i64 4, .int .u64 0, .slice none 0 0, .slice A l.length c] 26) = w3 at *
  refine HW3.out.mono ?_
  rintro e w4 ⟨rfl, hb4⟩
  have HB4 := Lib.hid (below_next HB3.out HB3.out.size hb4)
  obtain ⟨⟨z0, z1, z2, z3⟩, u0, u1, u2, u3⟩ := cells_item (HK3.out.next hb4)
  clear hb4 HW3 HB3 HK3
  go_wp2_with fail
  exact bodyPost_ret (v := .tuple #[zeroV, .int .i64 3]) (by simp [results, Tryd.results8, go_sem, z0, z1, z2, z3, u0, u1, u2, u3]) rfl ⟨rfl, below_set4 HB4.out (Nat.le_refl _) _ _ _ _⟩

set_option maxRecDepth 100000 in
set_option maxHeartbeats 4000000 in
theorem seal_no1 (l : List Itm) (A : Option Addr) (B c k : Nat) (w : World) (hv : ItemsV w 0 B l A) (hB : B ≤ w.heap.size) (hc : l.length ≤ c) (hm : c ≤ maxLen) (hk : k < l.length) (hE : (encs l).length ≤ 1000000000) (hd : deeps l ≤ 60000) (hT : Tabs w) (hS : Sz w) (ht : typ l[k] = 1) (hr : Cb.right (blank l 1) = false) :
    Calls Tryd.prog 8 #[.slice A l.length c, .int .i64 k] w fun e w' => e = .returned (.tuple #[zeroV, .int .i64 3]) ∧ Below w.heap.size w w' := by
  have hls := length_le_sizes l
  have hse := sizes_enc l
  have hsk := size_at l k hk
  have hdk := deep_at l k hk
  have HB0 := Lib.hid ((Below.refl w.heap.size w).alloc (Nat.le_refl _) (.cells #[.int .i64 0, .int .u64 0, .slice none 0 0, .slice none 0 0] 26))
  have HK0 := Lib.hid (Blk.new w 26 #[.int .i64 0, .int .u64 0, .slice none 0 0, .slice none 0 0])
  have HV := Lib.hid (fun (W : World) (h : Below w.heap.size w W) => hv.below (h.mono hB))
  have HTW := Lib.hid (fun (W : World) (h : Below w.heap.size w W) => hT.below h (Nat.le_refl _))
  have CS := Lib.hid (sumSize_any l A B c k _ (HV.out _ HB0.out) (by have := HB0.out.size; omega) hk hc hm (by omega) (by omega) (hS.below HB0.out (Nat.le_refl _)))
  rw [ht] at CS
  have j0 : (0 : Int) ≤ (k : Int) := by omega
  have j1 : (k : Int) < (l.length : Int) := by omega
  have d0 : decide ((k : Int) < 0) = false := decide_eq_false (by omega)
  have d1 : decide ((l.length : Int) ≤ (k : Int)) = false := decide_eq_false (by omega)
  have d2 : decide (l.length ≤ k) = false := decide_eq_false (by omega)
  have CB := Lib.hid (fun (W : World) (h : Below w.heap.size w W) => blank_2 l A B c W (HV.out W h) (by have := h.size; omega) (by omega) hc hm (by omega))
  have CW := Lib.hid (fun (W : World) (A2 : Option Addr) (c2 : Nat) (h : Below w.heap.size w W) (hi : ItemsV W 0 W.heap.size (l ++ [.mk 2 0 (zeros 2) []]) A2) (h1 : (l.length + 1) ≤ c2) (h2 : c2 ≤ maxLen) =>
    write_no (withB l (zeros 2)) (listV A2 (l.length + 1) c2) W.heap.size W (item_list hi (by simp) h1 h2) (Nat.le_refl _) (HTW.out W h) hr)
  have hcm := hm
  clear hv hT hS hE hd hls hse hsk hdk hr HV HTW
  go_enter Tryd.func8, Tryd.ntmps8
  go_wp2_with fail
  refine CS.out.mono ?_
  rintro e w1 ⟨rfl, hb1⟩
  rw [show szv 1 = 2 from rfl, show decide ((0 : Int) ≤ 1) = true from rfl]
  have HB1 := Lib.hid (below_next HB0.out HB0.out.size hb1)
  have HK1 := Lib.hid (HK0.out.next hb1)
  clear hb1 CS HK0 HB0
  go_wp2_with fail
  refine (CB.out _ HB1.out).mono ?_
  rintro e w2 ⟨A2, c2, rfl, ⟨hc1, hc2⟩, HI2, hb2⟩
  have HB2 := Lib.hid (below_next HB1.out HB1.out.size hb2)
  have HK2 := Lib.hid (HK1.out.next hb2)
  clear hb2 CB HB1 HK1
  have HB3 := Lib.hid (HB2.out.alloc HB2.out.size (.cells #[.int .i64 4, .int .u64 0, .slice none 0 0, .slice A2 (l.length + 1) c2] 26))
  have HK3 := Lib.hid (HK2.out.alloc (.cells #[.int .i64 4, .int .u64 0, .slice none 0 0, .slice A2 (l.length + 1) c2] 26))
  have HI3 := Lib.hid ((HI2.out.alloc (Nat.le_refl _) (.cells #[.int .i64 4, .int .u64 0, .slice none 0 0, .slice A2 (l.length + 1) c2] 26)).more (lo' := 0) (hi' := (w2.alloc (.cells #[.int .i64 4, .int .u64 0, .slice none 0 0, .slice A2 (l.length + 1) c2] 26)).heap.size) (Nat.le_refl _) (by simp))
  have HW3 := Lib.hid (CW.out _ A2 c2 HB3.out HI3.out hc1 hc2)
  clear HI2 HB2 HK2 CW HI3
  go_wp2_with fail
  generalize w2.alloc (.cells #[.int .i64 4, .int .u64 0, .slice none 0 0, .slice A2 (l.length + 1) c2] 26) = w3 at *
  refine HW3.out.mono ?_
  rintro e w4 ⟨rfl, hb4⟩
  have HB4 := Lib.hid (below_next HB3.out HB3.out.size hb4)
  obtain ⟨⟨z0, z1, z2, z3⟩, u0, u1, u2, u3⟩ := cells_item (HK3.out.next hb4)
  clear hb4 HW3 HB3 HK3
  go_wp2_with fail
  exact bodyPost_ret (v := .tuple #[zeroV, .int .i64 3]) (by simp [results, Tryd.results8, go_sem, z0, z1, z2, z3, u0, u1, u2, u3]) rfl ⟨rfl, below_set4 HB4.out (Nat.le_refl _) _ _ _ _⟩

set_option maxRecDepth 100000 in
set_option maxHeartbeats 4000000 in
theorem seal_no2 (l : List Itm) (A : Option Addr) (B c k : Nat) (w : World) (hv : ItemsV w 0 B l A) (hB : B ≤ w.heap.size) (hc : l.length ≤ c) (hm : c ≤ maxLen) (hk : k < l.length) (hE : (encs l).length ≤ 1000000000) (hd : deeps l ≤ 60000) (hT : Tabs w) (hS : Sz w) (ht : typ l[k] = 2) (hr : Cb.right (blank l 2) = false) :
    Calls Tryd.prog 8 #[.slice A l.length c, .int .i64 k] w fun e w' => e = .returned (.tuple #[zeroV, .int .i64 3]) ∧ Below w.heap.size w w' := by
  have hls := length_le_sizes l
  have hse := sizes_enc l
  have hsk := size_at l k hk
  have hdk := deep_at l k hk
  have HB0 := Lib.hid ((Below.refl w.heap.size w).alloc (Nat.le_refl _) (.cells #[.int .i64 0, .int .u64 0, .slice none 0 0, .slice none 0 0] 26))
  have HK0 := Lib.hid (Blk.new w 26 #[.int .i64 0, .int .u64 0, .slice none 0 0, .slice none 0 0])
  have HV := Lib.hid (fun (W : World) (h : Below w.heap.size w W) => hv.below (h.mono hB))
  have HTW := Lib.hid (fun (W : World) (h : Below w.heap.size w W) => hT.below h (Nat.le_refl _))
  have CS := Lib.hid (sumSize_any l A B c k _ (HV.out _ HB0.out) (by have := HB0.out.size; omega) hk hc hm (by omega) (by omega) (hS.below HB0.out (Nat.le_refl _)))
  rw [ht] at CS
  have j0 : (0 : Int) ≤ (k : Int) := by omega
  have j1 : (k : Int) < (l.length : Int) := by omega
  have d0 : decide ((k : Int) < 0) = false := decide_eq_false (by omega)
  have d1 : decide ((l.length : Int) ≤ (k : Int)) = false := decide_eq_false (by omega)
  have d2 : decide (l.length ≤ k) = false := decide_eq_false (by omega)
  have CB := Lib.hid (fun (W : World) (h : Below w.heap.size w W) => blank_4 l A B c W (HV.out W h) (by have := h.size; omega) (by omega) hc hm (by omega))
  have CW := Lib.hid (fun (W : World) (A2 : Option Addr) (c2 : Nat) (h : Below w.heap.size w W) (hi : ItemsV W 0 W.heap.size (l ++ [.mk 2 0 (zeros 4) []]) A2) (h1 : (l.length + 1) ≤ c2) (h2 : c2 ≤ maxLen) =>
    write_no (withB l (zeros 4)) (listV A2 (l.length + 1) c2) W.heap.size W (item_list hi (by simp) h1 h2) (Nat.le_refl _) (HTW.out W h) hr)
  have hcm := hm
  clear hv hT hS hE hd hls hse hsk hdk hr HV HTW
  go_enter Tryd.func8, Tryd.ntmps8
  go_wp2_with fail
  refine CS.out.mono ?_
  rintro e w1 ⟨rfl, hb1⟩
  rw [show szv 2 = 4 from rfl, show decide ((0 : Int) ≤ 2) = true from rfl]
  have HB1 := Lib.hid (below_next HB0.out HB0.out.size hb1)
  have HK1 := Lib.hid (HK0.out.next hb1)
  clear hb1 CS HK0 HB0
  go_wp2_with fail
  refine (CB.out _ HB1.out).mono ?_
  rintro e w2 ⟨A2, c2, rfl, ⟨hc1, hc2⟩, HI2, hb2⟩
  have HB2 := Lib.hid (below_next HB1.out HB1.out.size hb2)
  have HK2 := Lib.hid (HK1.out.next hb2)
  clear hb2 CB HB1 HK1
  have HB3 := Lib.hid (HB2.out.alloc HB2.out.size (.cells #[.int .i64 4, .int .u64 0, .slice none 0 0, .slice A2 (l.length + 1) c2] 26))
  have HK3 := Lib.hid (HK2.out.alloc (.cells #[.int .i64 4, .int .u64 0, .slice none 0 0, .slice A2 (l.length + 1) c2] 26))
  have HI3 := Lib.hid ((HI2.out.alloc (Nat.le_refl _) (.cells #[.int .i64 4, .int .u64 0, .slice none 0 0, .slice A2 (l.length + 1) c2] 26)).more (lo' := 0) (hi' := (w2.alloc (.cells #[.int .i64 4, .int .u64 0, .slice none 0 0, .slice A2 (l.length + 1) c2] 26)).heap.size) (Nat.le_refl _) (by simp))
  have HW3 := Lib.hid (CW.out _ A2 c2 HB3.out HI3.out hc1 hc2)
  clear HI2 HB2 HK2 CW HI3
  go_wp2_with fail
  generalize w2.alloc (.cells #[.int .i64 4, .int .u64 0, .slice none 0 0, .slice A2 (l.length + 1) c2] 26) = w3 at *
  refine HW3.out.mono ?_
  rintro e w4 ⟨rfl, hb4⟩
  have HB4 := Lib.hid (below_next HB3.out HB3.out.size hb4)
  obtain ⟨⟨z0, z1, z2, z3⟩, u0, u1, u2, u3⟩ := cells_item (HK3.out.next hb4)
  clear hb4 HW3 HB3 HK3
  go_wp2_with fail
  exact bodyPost_ret (v := .tuple #[zeroV, .int .i64 3]) (by simp [results, Tryd.results8, go_sem, z0, z1, z2, z3, u0, u1, u2, u3]) rfl ⟨rfl, below_set4 HB4.out (Nat.le_refl _) _ _ _ _⟩

/-- What comes of sealing. -/
def SealO (w w' : World) (l : List Itm) (a : Int) (v : Value) : Prop := (sealE l a = 0 → Laid w w' (sealI l a) v) ∧ (sealE l a ≠ 0 → v = zeroV)
theorem typAt_in (l : List Itm) (k : Nat) (h : k < l.length) : typAt l k = typ l[k] := by
  unfold typAt
  rw [if_neg (by omega), Int.toNat_natCast]
  simp [List.getD, h]
theorem sealI_yes {l : List Itm} {k : Nat} (h : k < l.length) {q : Nat} (ht : typ l[k] = q) (hr : Cb.right (blank l q) = true) : sealE l k = 0 ∧ sealI l k = sealed l q := by
  have e := typAt_in l k h
  rw [ht] at e
  have hE : sealE l k = 0 := by
    unfold sealE
    rw [if_neg (by omega), e, if_neg (by omega), Int.toNat_natCast, if_pos hr]
  refine ⟨hE, ?_⟩
  unfold sealI
  rw [if_pos hE, e, Int.toNat_natCast]
theorem sealE_no {l : List Itm} {k : Nat} (h : k < l.length) {q : Nat} (ht : typ l[k] = q) (hr : Cb.right (blank l q) = false) : sealE l k = 3 := by
  have e := typAt_in l k h
  rw [ht] at e
  unfold sealE
  rw [if_neg (by omega), e, if_neg (by omega), Int.toNat_natCast, if_neg (by rw [hr]; decide)]
theorem sealE_form {l : List Itm} {k : Nat} (h : k < l.length) (ht : typ l[k] = -1) : sealE l k = 3 := by
  have e := typAt_in l k h
  rw [ht] at e
  unfold sealE
  rw [if_neg (by omega), e, if_pos (by omega)]
theorem seal_any (l : List Itm) (A : Option Addr) (B c : Nat) (a : Int) (w : World) (hv : ItemsV w 0 B l A) (hB : B ≤ w.heap.size) (hc : l.length ≤ c) (hm : c ≤ maxLen) (hE : (encs l).length ≤ 1000000000) (hd : deeps l ≤ 60000) (hT : Tabs w) (hS : Sz w) :
    Calls Tryd.prog 8 #[.slice A l.length c, .int .i64 a] w fun e w' => ∃ v, e = .returned (.tuple #[v, .int .i64 (sealE l a)]) ∧ Hid (SealO w w' l a v) ∧ Below w.heap.size w w' := by
  by_cases ho : a < 0 ∨ (l.length : Int) ≤ a
  · have h1 : sealE l a = 1 := by unfold sealE; rw [if_pos ho]
    refine (seal_out l.length c A a w ho).mono ?_
    rintro e w' ⟨rfl, hb⟩
    exact ⟨_, by rw [h1], Lib.hid ⟨fun h => by omega, fun _ => rfl⟩, hb⟩
  · obtain ⟨k, rfl⟩ := Int.eq_ofNat_of_zero_le (show 0 ≤ a by omega)
    have hk : k < l.length := by omega
    have hn : ∀ {e w'}, sealE l k = 3 → (e = Ending.returned (.tuple #[zeroV, .int .i64 3]) ∧ Below w.heap.size w w') → ∃ v, e = .returned (.tuple #[v, .int .i64 (sealE l k)]) ∧ Hid (SealO w w' l k v) ∧ Below w.heap.size w w' := by
      rintro e w' h3 ⟨rfl, hb⟩
      exact ⟨_, by rw [h3], Lib.hid ⟨fun h => by omega, fun _ => rfl⟩, hb⟩
    have hy : ∀ {e w'} (q : Nat) (x : Itm), sealE l k = 0 ∧ sealI l k = sealed l q → sealed l q = x → (∃ v, e = Ending.returned (.tuple #[v, .int .i64 0]) ∧ Hid (Laid w w' x v) ∧ Below w.heap.size w w') → ∃ v, e = .returned (.tuple #[v, .int .i64 (sealE l k)]) ∧ Hid (SealO w w' l k v) ∧ Below w.heap.size w w' := by
      rintro e w' q x ⟨h0, h1⟩ h2 ⟨v, rfl, hl, hb⟩
      exact ⟨v, by rw [h0], Lib.hid ⟨fun _ => by rw [h1, h2]; exact hl.out, fun h => absurd h0 h⟩, hb⟩
    have hr := typ_range l[k]
    rcases (show typ l[k] = -1 ∨ typ l[k] = (0 : Nat) ∨ typ l[k] = (1 : Nat) ∨ typ l[k] = (2 : Nat) by omega) with ht | ht | ht | ht
    · exact (seal_form l A B c k w hv hB hc hm hk hE hd hS ht).mono fun _ _ h => hn (sealE_form hk ht) h
    · cases hb : Cb.right (blank l 0)
      · exact (seal_no0 l A B c k w hv hB hc hm hk hE hd hT hS ht hb).mono fun _ _ h => hn (sealE_no hk ht hb) h
      · exact (seal_yes0 l A B c k w hv hB hc hm hk hE hd hT hS ht hb).mono fun _ _ h => hy 0 _ (sealI_yes hk ht hb) rfl h
    · cases hb : Cb.right (blank l 1)
      · exact (seal_no1 l A B c k w hv hB hc hm hk hE hd hT hS ht hb).mono fun _ _ h => hn (sealE_no hk ht hb) h
      · exact (seal_yes1 l A B c k w hv hB hc hm hk hE hd hT hS ht hb).mono fun _ _ h => hy 1 _ (sealI_yes hk ht hb) rfl h
    · cases hb : Cb.right (blank l 2)
      · exact (seal_no2 l A B c k w hv hB hc hm hk hE hd hT hS ht hb).mono fun _ _ h => hn (sealE_no hk ht hb) h
      · exact (seal_yes2 l A B c k w hv hB hc hm hk hE hd hT hS ht hb).mono fun _ _ h => hy 2 _ (sealI_yes hk ht hb) rfl h
end Go.Proofs.YthknkdphofjmhaaDoor.Prim
