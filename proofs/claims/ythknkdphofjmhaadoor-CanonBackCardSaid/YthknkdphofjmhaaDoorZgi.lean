/- Texts of my own, laid together: CanIt, CanNm, CanAg. -/
import Derived.Test.YthknkdphofjmhaaDoorZge
import Derived.Test.YthknkdphofjmhaaDoorZgh
import Derived.Test.YthknkdphofjmhaaDoorCbSame
import Derived.Deep.RegionHeld3
import Derived.Deep.RegionWith
import Derived.BigRegion
import Derived.Test.YthknkdphofjmhaaDoorIdRd
import Derived.Test.YthknkdphofjmhaaDoorZg4
/- What data say: the contract of item. -/
namespace Go.Proofs.YthknkdphofjmhaaDoor.Can
open Go.RowKit Wd Cb Eid EncB Prim CbCopy CbList CbRight CbWrite CbSame CbRead CbShort

/-- What item answers. -/
def ItemO (w w' : World) (xs : List Int) (e : Ending) : Prop := ∃ (z : Itm) (v : Value) (sh : Bool), e = .returned (.tuple #[v, .bool sh]) ∧ Hid (ItemV w' w.heap.size w'.heap.size z v) ∧ Hid (size z ≤ 256 ∧ deep z ≤ 6 ∧ sane z ∧ (enc z).length ≤ 1000000) ∧ Hid ((sh = true → Says xs z) ∧ (sh = false → ∀ x, ¬ Says xs x))
/-- What is read, and whether it is the shortest, together. -/
theorem says_read {xs : List Int} (hx : St.bts xs) (hl : xs.length ≤ 1000000) {z x' : Itm} {p l p' l' : Int} (h : ReadR xs 0 (.ok z p l)) (h' : ReadR xs 0 (.ok x' p' l')) {sh : Bool} (hs : sh = (xs == enc x')) : (size z ≤ 256 ∧ deep z ≤ 6 ∧ sane z ∧ (enc z).length ≤ 1000000) ∧ (sh = true → Says xs z) ∧ (sh = false → ∀ x, ¬ Says xs x) := by
  have hd := read_det h h'
  injection hd with e1 e2 e3
  subst e1
  obtain ⟨g1, g2, g3, g4, g5, g6⟩ := read_good hx (by omega) h
  have g1' := g1
  unfold Cb.right at g1'
  simp only [Bool.and_eq_true, decide_eq_true_eq] at g1'
  refine ⟨⟨g1'.1.1, g1'.1.2, g2, by omega⟩, fun q => ⟨g1, g2, ?_⟩, fun q x hy => ?_⟩
  · rw [hs] at q
    exact (by simpa using q : xs = enc z).symm
  · obtain ⟨r, s, rfl⟩ := hy
    have b := read_back x [] r s (by omega)
    rw [List.append_nil] at b
    have c := read_det b h
    injection c with c1
    subst c1
    rw [hs] at q
    simp at q
theorem set4_cell (w : World) (g : Nat) (a b c d : Value) {p : Addr} (h : p.block ≠ g) : (set4 w g a b c d).cell? p = w.cell? p := by
  unfold set4
  rw [World.cell?_setCell_far _ _ _ _ (fun q => h q.symm), World.cell?_setCell_far _ _ _ _ (fun q => h q.symm), World.cell?_setCell_far _ _ _ _ (fun q => h q.symm), World.cell?_setCell_far _ _ _ _ (fun q => h q.symm)]
theorem set4_size (w : World) (g : Nat) (a b c d : Value) : (set4 w g a b c d).heap.size = w.heap.size := by simp [World.setCell]
theorem set4_item {w : World} {g lo hi : Nat} {x : Itm} {v : Value} (h : ItemV w lo hi x v) (hg : g < lo) (a b c d : Value) : ItemV (set4 w g a b c d) lo hi x v := h.keep fun p h1 _ => set4_cell _ _ _ _ _ _ (by omega)
theorem says_none {xs : List Int} (hl : xs.length ≤ 1000000) {k : Int} (h : ReadR xs 0 (.err k)) (x : Itm) : ¬ Says xs x := by
  rintro ⟨r, s, rfl⟩
  have b := read_back x [] r s (by omega)
  rw [List.append_nil] at b
  cases read_det b h

set_option maxRecDepth 100000 in
set_option maxHeartbeats 4000000 in
theorem item_any (A : Option Addr) (B c : Nat) (xs : List Int) (w : World) (hs : Lst w B A (u8s xs)) (hB : B ≤ w.heap.size) (hx : St.bts xs) (hc : xs.length ≤ c) (hm : c ≤ maxLen) (hl : xs.length ≤ 1000000) (hT : Tabs w) :
    Calls Tryd.prog 75 #[.slice A xs.length c] w fun e w' => ItemO w w' xs e ∧ Below w.heap.size w w' := by
  have HB0 := Lib.hid ((Below.refl w.heap.size w).alloc (Nat.le_refl _) (.cells #[.int .i64 0, .int .u64 0, .slice none 0 0, .slice none 0 0] 26))
  have HK0 := Lib.hid (Blk.new w 26 #[.int .i64 0, .int .u64 0, .slice none 0 0, .slice none 0 0])
  have CR := Lib.hid (fun (W : World) (h : Below w.heap.size w W) => read_any A B c xs 0 W (hs.below (h.mono hB)) (Nat.le_trans hB h.size) hx hc hm (by omega) (hT.below h (Nat.le_refl _)))
  have CS := Lib.hid (fun (W : World) (h : Below w.heap.size w W) => shortest_any A B c xs W (hs.below (h.mono hB)) (Nat.le_trans hB h.size) hx hc hm (by omega) (hT.below h (Nat.le_refl _)))
  have HX := Lib.hid hx
  clear hs hT hx
  go_enter Tryd.func75, Tryd.ntmps75
  go_wp2_with fail
  generalize w.alloc (.cells #[.int .i64 0, .int .u64 0, .slice none 0 0, .slice none 0 0] 26) = w0 at *
  refine (CR.out _ HB0.out).mono ?_
  rintro e w1 ⟨r, hr, ho⟩
  have hu : ∃ (z : Itm) (v : Value) (p k : Int), e = .returned (.tuple #[v, .int .i64 p, .int .i64 k]) ∧ Hid (ItemV w1 w0.heap.size w1.heap.size z v) ∧ Hid (Below w0.heap.size w0 w1) ∧
      Hid (∀ sh : Bool, Hid ((∃ x p l, ReadR xs 0 (.ok x p l) ∧ sh = (xs == enc x)) ∨ ((∃ k, ReadR xs 0 (.err k)) ∧ sh = false)) → (size z ≤ 256 ∧ deep z ≤ 6 ∧ sane z ∧ (enc z).length ≤ 1000000) ∧ (sh = true → Says xs z) ∧ (sh = false → ∀ x, ¬ Says xs x)) := by
    cases r with
    | err k =>
      obtain ⟨rfl, HB1⟩ := ho
      refine ⟨iN 0, _, 0, k, rfl, Lib.hid (ItemV.mk ⟨by omega, by omega⟩ ⟨by omega, by omega⟩ (fun q hq => by simp at hq) (Nat.le_refl _) (by unfold maxLen; omega) .nil (Nat.le_refl _) (by unfold maxLen; omega) .nil), HB1, Lib.hid (fun sh h => ?_)⟩
      refine ⟨⟨by decide, by decide, sane_zero, by decide⟩, fun e => ?_, fun _ => says_none hl hr⟩
      rcases h.out with ⟨x, p, l, h1, _⟩ | ⟨_, h2⟩
      · cases read_det hr h1
      · rw [h2] at e
        cases e
    | ok x p l =>
      obtain ⟨v, rfl, HV, HB1⟩ := ho
      refine ⟨x, v, p, 0, rfl, HV, HB1, Lib.hid (fun sh h => ?_)⟩
      rcases h.out with ⟨x', p', l', h1, h2⟩ | ⟨⟨k, h1⟩, _⟩
      · exact says_read HX.out hl hr h1 h2
      · cases read_det hr h1
  clear hr ho CR
  obtain ⟨z, v, p, k, rfl, HV, HB1, HU⟩ := hu
  obtain ⟨A1, c1, A2, c2, rfl, _⟩ := HV.out.open_
  have hz01 : w0.heap.size ≤ w1.heap.size := HB1.out.size
  have HBa := Lib.hid ((below_next HB0.out HB0.out.size HB1.out).alloc (Nat.le_trans HB0.out.size HB1.out.size) (.cells #[.int .i64 z.kind, .int .u64 z.num, .slice A1 z.bs.length c1, .slice A2 z.sub.length c2] 26))
  have HKa := Lib.hid (Blk.new w1 26 #[.int .i64 z.kind, .int .u64 z.num, .slice A1 z.bs.length c1, .slice A2 z.sub.length c2])
  have HZa := Lib.hid ((HK0.out.next HB1.out).alloc (.cells #[.int .i64 z.kind, .int .u64 z.num, .slice A1 z.bs.length c1, .slice A2 z.sub.length c2] 26))
  have HVa := Lib.hid ((HV.out.alloc (Nat.le_refl _) (.cells #[.int .i64 z.kind, .int .u64 z.num, .slice A1 z.bs.length c1, .slice A2 z.sub.length c2] 26)).more (Nat.le_refl w0.heap.size) (show w1.heap.size ≤ (w1.alloc (.cells #[.int .i64 z.kind, .int .u64 z.num, .slice A1 z.bs.length c1, .slice A2 z.sub.length c2] 26)).heap.size by simp))
  have hz0 : w.heap.size < w0.heap.size := HK0.out.lt
  clear HV HB1 HK0 HB0 HX
  go_upto_region 2 with (fail)
  generalize w1.alloc (.cells #[.int .i64 z.kind, .int .u64 z.num, .slice A1 z.bs.length c1, .slice A2 z.sub.length c2] 26) = W at *
  obtain ⟨k0, k1, k2, k3⟩ := cells4 HKa.out
  obtain ⟨⟨z0, z1, z2, z3⟩, u0, u1, u2, u3⟩ := cells_item HZa.out
  have hne : w1.heap.size ≠ w.heap.size := by omega
  have HBd := Lib.hid ((Below.refl W.heap.size W).drew)
  have HBDa := Lib.hid HBa.out.drew
  have HBs := Lib.hid (below_set4 HBDa.out (Nat.le_refl w.heap.size) (.int .i64 z.kind) (.int .u64 z.num) (.slice A1 z.bs.length c1) (.slice A2 z.sub.length c2))
  have KC := Lib.hid (fun (W' : World) (h : Below W.heap.size W W') => cells4 (HKa.out.next h))
  have KF := Lib.hid (fun (W' : World) (h : Below W.heap.size W W') (a b c d : Value) => cells4 (set4_far (HKa.out.next h) hne a b c d))
  have KG := Lib.hid (fun (W' W2 : World) (h : Below W.heap.size W W') (a b c d : Value) (h2 : Below (set4 W' w.heap.size a b c d).heap.size (set4 W' w.heap.size a b c d) W2) => cells4 ((set4_far (HKa.out.next h) hne a b c d).next h2))
  have KZ := Lib.hid (fun (W' : World) (h : Below W.heap.size W W') => cells_item (HZa.out.next h))
  obtain ⟨⟨z0, z1, z2, z3⟩, u0, u1, u2, u3⟩ := KZ.out _ HBd.out
  clear hne
  go_region_held3 (fun w' => w'.cell? ⟨w1.heap.size, 0, none⟩ = some (.int .i64 z.kind) ∧ w'.cell? ⟨w1.heap.size, 1, none⟩ = some (.int .u64 z.num) ∧ w'.cell? ⟨w1.heap.size, 2, none⟩ = some (.slice A1 z.bs.length c1) ∧ w'.cell? ⟨w1.heap.size, 3, none⟩ = some (.slice A2 z.sub.length c2))
    (first | with_reducible exact KC.out _ HBd.out | with_reducible exact KC.out _ HBx.out | with_reducible exact KF.out _ HBd.out _ _ _ _ | with_reducible exact KF.out _ HBx.out _ _ _ _ | with_reducible exact KG.out _ _ HBd.out _ _ _ _ HBy.out | fail)
    (first
    | (go_at_call 91; (with_reducible refine (CS.out _ HBDa.out).mono ?_); rintro e w2 ⟨sh, rfl, hb2, HSH⟩; have HBx := Lib.hid (below_next HBd.out HBd.out.size hb2); obtain ⟨⟨z0, z1, z2, z3⟩, u0, u1, u2, u3⟩ := KZ.out _ HBx.out; clear hb2)
    | (go_at_call 91; (with_reducible refine (CS.out _ HBs.out).mono ?_); rintro e w2 ⟨sh, rfl, hb2, HSH⟩; have HBy := Lib.hid hb2; clear hb2)
    | fail)
  have HB2 := Lib.hid (below_next HBa.out HBa.out.size HBx.out)
  have HZ2 := Lib.hid (HZa.out.next HBx.out)
  have HV2 := Lib.hid ((HVa.out.below HBx.out).more (Nat.le_refl _) HBx.out.size)
  have HK9 := Lib.hid (set4_blk HZ2.out (.int .i64 z.kind) (.int .u64 z.num) (.slice A1 z.bs.length c1) (.slice A2 z.sub.length c2))
  have HB9 : Hid (Below w.heap.size w (set4 w2 w.heap.size (.int .i64 z.kind) (.int .u64 z.num) (.slice A1 z.bs.length c1) (.slice A2 z.sub.length c2))) := Lib.hid (below_set4 HB2.out (Nat.le_refl w.heap.size) (.int .i64 z.kind) (.int .u64 z.num) (.slice A1 z.bs.length c1) (.slice A2 z.sub.length c2))
  have HV9 := Lib.hid ((show ItemV (set4 w2 w.heap.size (.int .i64 z.kind) (.int .u64 z.num) (.slice A1 z.bs.length c1) (.slice A2 z.sub.length c2)) w0.heap.size (set4 w2 w.heap.size (.int .i64 z.kind) (.int .u64 z.num) (.slice A1 z.bs.length c1) (.slice A2 z.sub.length c2)).heap.size z _ by
    rw [set4_size]
    exact set4_item HV2.out hz0 _ _ _ _).more (show w.heap.size ≤ w0.heap.size by omega) (Nat.le_refl _))
  have HU2 := Lib.hid (HU.out sh HSH)
  clear KC KF KG KZ HBx HBs HBd HBDa CS HU HSH k0 k1 k2 k3 z0 z1 z2 z3 u0 u1 u2 u3 HB2 HZ2 HV2
  generalize hW9 : set4 w2 w.heap.size (.int .i64 z.kind) (.int .u64 z.num) (.slice A1 z.bs.length c1) (.slice A2 z.sub.length c2) = W9 at HK9 HB9 HV9
  unfold set4 at hW9
  rw [hW9]
  obtain ⟨q0, q1, q2, q3⟩ := cells4 HK9.out
  go_wp2_with fail
  exact bodyPost_ret (v := .tuple #[.agg #[.int .i64 z.kind, .int .u64 z.num, .slice A1 z.bs.length c1, .slice A2 z.sub.length c2], .bool sh]) (by simp [results, Tryd.results75, go_sem, q0, q1, q2, q3]) rfl ⟨⟨z, _, sh, rfl, HV9, Lib.hid HU2.out.1, Lib.hid HU2.out.2⟩, HB9.out⟩
end Go.Proofs.YthknkdphofjmhaaDoor.Can
/- What data say: the contracts of name and age. -/
namespace Go.Proofs.YthknkdphofjmhaaDoor.Can
open Go.RowKit Wd Cb Eid EncB Prim CbCopy CbList CbRight CbWrite CbSame CbRead CbShort

/-- What name answers. -/
def NameO (xs : List Int) (e : Ending) : Prop := ∃ (n : Nm) (ok : Bool), e = .returned (.tuple #[n.val, .bool ok]) ∧ Hid n.ok ∧ Hid ((ok = true → NameD xs n) ∧ (ok = false → ∀ m, ¬ NameD xs m))
theorem name_says {xs : List Int} {z : Itm} {sh : Bool} (hl : xs.length ≤ 1000000) (hz : size z ≤ 256 ∧ deep z ≤ 6 ∧ sane z ∧ (enc z).length ≤ 1000000) (h : (sh = true → Says xs z) ∧ (sh = false → ∀ x, ¬ Says xs x)) :
    ((sh && rdOk z) = true → NameD xs (rdI z)) ∧ ((sh && rdOk z) = false → ∀ m, ¬ NameD xs m) := by
  cases sh
  · exact ⟨fun e => (by cases e), fun _ m hm => h.2 rfl _ hm.2.2⟩
  · have hs := h.1 rfl
    cases hr : rdOk z
    · refine ⟨fun e => (by cases e), fun _ m hm => ?_⟩
      have e := says_one (by omega) hs hm.2.2
      rw [e, (item_name m hm.1).1] at hr
      cases hr
    · obtain ⟨h1, h2, h3⟩ := name_of hz.2.2.1 (by omega) hr
      exact ⟨fun _ => ⟨h1, h2, by rw [h3]; exact hs⟩, fun e => (by cases e)⟩

set_option maxRecDepth 100000 in
set_option maxHeartbeats 4000000 in
theorem name_any (A : Option Addr) (B c : Nat) (xs : List Int) (w : World) (hs : Lst w B A (u8s xs)) (hB : B ≤ w.heap.size) (hx : St.bts xs) (hc : xs.length ≤ c) (hm : c ≤ maxLen) (hl : xs.length ≤ 1000000) (hT : Tabs w) :
    Calls Tryd.prog 47 #[.slice A xs.length c] w fun e w' => NameO xs e ∧ Below w.heap.size w w' := by
  have HB0 := Lib.hid ((Below.refl w.heap.size w).alloc (Nat.le_refl _) (.cells #[.bool false, .int .u64 0, .int .u64 0, .string ⟨#[]⟩, .string ⟨#[]⟩] 48))
  have HK0 := Lib.hid (Blk.new w 48 #[.bool false, .int .u64 0, .int .u64 0, .string ⟨#[]⟩, .string ⟨#[]⟩])
  have CI := Lib.hid (fun (W : World) (h : Below w.heap.size w W) => item_any A B c xs W (hs.below (h.mono hB)) (Nat.le_trans hB h.size) hx hc hm hl (hT.below h (Nat.le_refl _)))
  clear hs hT hx
  go_enter Tryd.func47, Tryd.ntmps47
  go_wp2_with fail
  generalize w.alloc (.cells #[.bool false, .int .u64 0, .int .u64 0, .string ⟨#[]⟩, .string ⟨#[]⟩] 48) = w0 at *
  refine (CI.out _ HB0.out).mono ?_
  rintro e w1 ⟨⟨z, v, sh, rfl, HV, HG, HS⟩, hb1⟩
  have HN := Lib.hid (name_says hl HG.out HS.out)
  have HO := Lib.hid (rdI_ok (HV.out.more (Nat.zero_le _) (Nat.le_refl _)))
  have HE := Lib.hid (show rdE z = if rdOk z then 0 else 3 from rfl)
  obtain ⟨A1, c1, A2, c2, rfl, _⟩ := HV.out.open_
  have HBa := Lib.hid ((below_next HB0.out HB0.out.size hb1).alloc (Nat.le_trans HB0.out.size hb1.size) (.cells #[.int .i64 z.kind, .int .u64 z.num, .slice A1 z.bs.length c1, .slice A2 z.sub.length c2] 26))
  have HKa := Lib.hid (Blk.new w1 26 #[.int .i64 z.kind, .int .u64 z.num, .slice A1 z.bs.length c1, .slice A2 z.sub.length c2])
  have HZa := Lib.hid ((HK0.out.next hb1).alloc (.cells #[.int .i64 z.kind, .int .u64 z.num, .slice A1 z.bs.length c1, .slice A2 z.sub.length c2] 26))
  have HVa := Lib.hid ((HV.out.alloc (Nat.le_refl _) (.cells #[.int .i64 z.kind, .int .u64 z.num, .slice A1 z.bs.length c1, .slice A2 z.sub.length c2] 26)).more (Nat.zero_le _) (show w1.heap.size ≤ (w1.alloc (.cells #[.int .i64 z.kind, .int .u64 z.num, .slice A1 z.bs.length c1, .slice A2 z.sub.length c2] 26)).heap.size by simp))
  clear CI HB0 HK0 HV HG HS hb1
  go_upto_region 2 with (fail)
  generalize w1.alloc (.cells #[.int .i64 z.kind, .int .u64 z.num, .slice A1 z.bs.length c1, .slice A2 z.sub.length c2] 26) = W at *
  obtain ⟨k0, k1, k2, k3⟩ := cells4 HKa.out
  go_wp2_with fail
  refine (read_all z _ W HVa.out).mono ?_
  rintro e w2 ⟨rfl, hb2⟩
  have HB2 := Lib.hid (below_next HBa.out HBa.out.size hb2)
  have HZ2 := Lib.hid (HZa.out.next hb2)
  clear k0 k1 k2 k3 hb2 HBa HZa HKa HVa
  generalize rdI z = n at *
  generalize rdE z = re at *
  generalize rdOk z = ro at *
  obtain ⟨i, nn, s, h, d⟩ := n
  have HB3 := Lib.hid (HB2.out.alloc HB2.out.size (.cells #[.bool i, .int .u64 nn, .int .u64 s, .string h, .string d] 48))
  have HK3 := Lib.hid (Blk.new w2 48 #[.bool i, .int .u64 nn, .int .u64 s, .string h, .string d])
  have HZ3 := Lib.hid (HZ2.out.alloc (.cells #[.bool i, .int .u64 nn, .int .u64 s, .string h, .string d] 48))
  have hne : w.heap.size ≠ w2.heap.size := Nat.ne_of_lt HZ2.out.lt
  clear HB2 HZ2
  go_upto_region 3 with (fail)
  generalize w2.alloc (.cells #[.bool i, .int .u64 nn, .int .u64 s, .string h, .string d] 48) = W3 at *
  obtain ⟨c0, c1', c2', c3, c4⟩ := cells5 HK3.out
  obtain ⟨y0, y1, y2, y3, y4⟩ := cells5 HZ3.out
  obtain ⟨f0, f1, f2, f3, f4⟩ := froz5 HZ3.out
  have HK9 := Lib.hid (Eid.set5_blk HZ3.out (.bool i) (.int .u64 nn) (.int .u64 s) (.string h) (.string d))
  have HB9 := Lib.hid (Eid.set5_below HB3.out (Nat.le_refl _) (.bool i) (.int .u64 nn) (.int .u64 s) (.string h) (.string d))
  generalize hW9 : Eid.set5 W3 w.heap.size (.bool i) (.int .u64 nn) (.int .u64 s) (.string h) (.string d) = W9 at HK9 HB9
  unfold Eid.set5 at hW9
  have fin : ∀ ok : Bool, ok = (sh && ro) → NameO xs (.returned (.tuple #[.agg #[.bool i, .int .u64 nn, .int .u64 s, .string h, .string d], .bool ok])) ∧ Below w.heap.size w W9 :=
    fun ok e => ⟨⟨⟨i, nn, s, h, d⟩, ok, rfl, HO, Lib.hid (by rw [e]; exact HN.out)⟩, HB9.out⟩
  have HF := Lib.hid fin
  obtain ⟨q0, q1, q2, q3, q4⟩ := cells5 HK9.out
  clear HN HO fin hl hc
  cases sh
  · go_wp2_with fail
    try rw [hW9]
    exact bodyPost_ret (v := .tuple #[.agg #[.bool i, .int .u64 nn, .int .u64 s, .string h, .string d], .bool false]) (by simp [results, Tryd.results47, go_sem, q0, q1, q2, q3, q4]) rfl (HF.out _ rfl)
  · cases ro
    · obtain rfl : re = 3 := by rw [HE.out]; rfl
      clear HE
      go_wp2_with fail
      try rw [hW9]
      exact bodyPost_ret (v := .tuple #[.agg #[.bool i, .int .u64 nn, .int .u64 s, .string h, .string d], .bool false]) (by simp [results, Tryd.results47, go_sem, q0, q1, q2, q3, q4]) rfl (HF.out _ rfl)
    · obtain rfl : re = 0 := by rw [HE.out]; rfl
      clear HE
      go_wp2_with fail
      try rw [hW9]
      exact bodyPost_ret (v := .tuple #[.agg #[.bool i, .int .u64 nn, .int .u64 s, .string h, .string d], .bool true]) (by simp [results, Tryd.results47, go_sem, q0, q1, q2, q3, q4]) rfl (HF.out _ rfl)
end Go.Proofs.YthknkdphofjmhaaDoor.Can
/- What data say: the contract of age. -/
namespace Go.Proofs.YthknkdphofjmhaaDoor.Can
open Go.RowKit Wd Cb Eid EncB Prim CbCopy CbList CbRight CbWrite CbSame CbRead CbShort

/-- What age answers. -/
def AgeO (xs : List Int) (e : Ending) : Prop := ∃ (n : Int) (ok : Bool), e = .returned (.tuple #[.int .u64 n, .bool ok]) ∧ Hid (0 ≤ n ∧ n ≤ 18446744073709551615) ∧ Hid ((ok = true → AgeD xs n) ∧ (ok = false → ∀ m, ¬ AgeD xs m))
theorem age_says {xs : List Int} {z : Itm} {sh : Bool} (hl : xs.length ≤ 1000000) (hn : 0 ≤ z.num ∧ z.num ≤ 18446744073709551615) (h : (sh = true → Says xs z) ∧ (sh = false → ∀ x, ¬ Says xs x)) (ok : Bool) (ho : ok = (sh && (same z (iN z.num) && decide (z.num ≤ 1099511627776)))) :
    (ok = true → AgeD xs z.num) ∧ (ok = false → ∀ m, ¬ AgeD xs m) := by
  subst ho
  cases sh
  · exact ⟨fun e => (by cases e), fun _ m hm => h.2 rfl _ hm.2⟩
  · have hs := h.1 rfl
    have key : ∀ m, AgeD xs m → z = iN m ∧ m ≤ 1099511627776 := fun m hm => ⟨says_one (by omega) hs hm.2, hm.1.2⟩
    cases hr : same z (iN z.num)
    · refine ⟨fun e => (by cases e), fun _ m hm => ?_⟩
      obtain ⟨rfl, _⟩ := key m hm
      rw [show (iN m).num = m from rfl, same_self] at hr
      cases hr
    · have hz := (same_iff _ _).1 hr
      cases hd : decide (z.num ≤ 1099511627776)
      · refine ⟨fun e => (by cases e), fun _ m hm => ?_⟩
        obtain ⟨rfl, h2⟩ := key m hm
        exact absurd h2 (of_decide_eq_false hd)
      · exact ⟨fun _ => ⟨⟨hn.1, of_decide_eq_true hd⟩, by rw [← hz]; exact hs⟩, fun e => (by cases e)⟩

set_option maxRecDepth 100000 in
set_option maxHeartbeats 4000000 in
theorem age_any (A : Option Addr) (B c : Nat) (xs : List Int) (w : World) (hs : Lst w B A (u8s xs)) (hB : B ≤ w.heap.size) (hx : St.bts xs) (hc : xs.length ≤ c) (hm : c ≤ maxLen) (hl : xs.length ≤ 1000000) (hT : Tabs w) :
    Calls Tryd.prog 48 #[.slice A xs.length c] w fun e w' => AgeO xs e ∧ Below w.heap.size w w' := by
  have CI := Lib.hid (item_any A B c xs w hs hB hx hc hm hl hT)
  clear hs hT hx
  go_enter Tryd.func48, Tryd.ntmps48
  go_wp2_with fail
  refine CI.out.mono ?_
  rintro e w1 ⟨⟨z, v, sh, rfl, HV, HG, HS⟩, hb1⟩
  have hv := HV.out.more (Nat.zero_le _) (Nat.le_refl _)
  obtain ⟨A1, c1, A2, c2, rfl, r1, r2, r3, r4, r5, r6, r7, r8, r9⟩ := hv.open_
  have HX0 := Lib.hid hv
  have HNN := Lib.hid r2
  have HN := Lib.hid (age_says hl r2 HS.out)
  have CS : Hid (∀ W, Below w1.heap.size w1 W → Calls Tryd.prog 19 #[.agg #[.int .i64 z.kind, .int .u64 z.num, .slice A1 z.bs.length c1, .slice A2 z.sub.length c2], .agg #[.int .i64 0, .int .u64 z.num, .slice none 0 0, .slice none 0 0]] W fun e w' => e = .returned (.bool (same z (iN z.num))) ∧ Below W.heap.size W w') := Lib.hid (fun W hW =>
    sameTop_any z (iN z.num) _ _ w1.heap.size W (HX0.out.below hW) (ItemV.mk ⟨by omega, by omega⟩ HNN.out (fun q hq => by simp at hq) (Nat.le_refl _) (by unfold maxLen; omega) .nil (Nat.le_refl _) (by unfold maxLen; omega) .nil) hW.size (by have := HG.out.1; omega) (by have := HG.out.2.1; omega))
  have CN := Lib.hid (fun W => num_any z.num W HNN.out.1 HNN.out.2)
  have HBw := Lib.hid ((Below.refl w1.heap.size w1).alloc (Nat.le_refl _) (.cells #[.int .i64 z.kind, .int .u64 z.num, .slice A1 z.bs.length c1, .slice A2 z.sub.length c2] 26))
  have HBa := Lib.hid (hb1.alloc hb1.size (.cells #[.int .i64 z.kind, .int .u64 z.num, .slice A1 z.bs.length c1, .slice A2 z.sub.length c2] 26))
  have HKa := Lib.hid (Blk.new w1 26 #[.int .i64 z.kind, .int .u64 z.num, .slice A1 z.bs.length c1, .slice A2 z.sub.length c2])
  clear CI HV HG HS hb1 hv HX0 r1 r2 r3 r4 r5 r6 r7 r8 r9
  generalize hzn : z.num = n at *
  generalize hzk : z.kind = kk at *
  generalize z.bs.length = bl at *
  generalize z.sub.length = sl at *
  generalize same z (iN n) = sm at *
  clear hzk hzn
  go_upto_region 2 with (fail)
  generalize w1.alloc (.cells #[.int .i64 kk, .int .u64 n, .slice A1 bl c1, .slice A2 sl c2] 26) = W at *
  have HBd := Lib.hid (Below.refl W.heap.size W).drew
  have KL : Hid (∀ w', Below W.heap.size W w' → w'.cell? ⟨w1.heap.size, 0, none⟩ = some (.int .i64 kk) ∧ w'.cell? ⟨w1.heap.size, 1, none⟩ = some (.int .u64 n) ∧ w'.cell? ⟨w1.heap.size, 2, none⟩ = some (.slice A1 bl c1) ∧ w'.cell? ⟨w1.heap.size, 3, none⟩ = some (.slice A2 sl c2)) := Lib.hid (fun w' h => cells4 (HKa.out.next h))
  have fin : ∀ (ok : Bool) (w' : World), ok = (sh && (sm && decide (n ≤ 1099511627776))) → Below W.heap.size W w' → AgeO xs (.returned (.tuple #[.int .u64 n, .bool ok])) ∧ Below w.heap.size w w' :=
    fun ok w' e hb => ⟨⟨n, ok, rfl, HNN, Lib.hid (HN.out ok e)⟩, below_next HBa.out HBa.out.size hb⟩
  have HF := Lib.hid fin
  clear fin HN HNN hl hc hB
  cases sh
  · clear CS CN
    refine wp_region_held_drew (S := (fun w' => w'.cell? ⟨w1.heap.size, 0, none⟩ = some (.int .i64 kk) ∧ w'.cell? ⟨w1.heap.size, 1, none⟩ = some (.int .u64 n) ∧ w'.cell? ⟨w1.heap.size, 2, none⟩ = some (.slice A1 bl c1) ∧ w'.cell? ⟨w1.heap.size, 3, none⟩ = some (.slice A2 sl c2))) (by kernel_rfl) (KL.out _ HBd.out) (fun hHeld => ?_)
    first
    | (refine wpAnyH_take (i := 0) (oi := ({ dst := some 11, op := Op.fieldAddr 26 (Operand.tmp 4) 1, type := 0, pos := "data.go:39", after := #[], guard := none })) (v := ?_) rfl (by kernel_rfl) (by kernel_rfl) (by kernel_rfl) (fun _ _ _ h => h) (Or.inl ⟨by rfl, ?_⟩) hHeld ?_
       rotate_left
       · intro w hSw
         (try dsimp only at hSw)
         go_simp
         try with_reducible rfl
       try simp only [Act.put, List.setIfInBounds_toArray, List.set_cons_zero, List.set_cons_succ])
    | fail
    first
    | (refine wpAnyH_take (i := 1) (oi := ({ dst := some 12, op := Op.load 22 (Operand.tmp 11), type := 22, pos := "data.go:39", after := #[{ on := 0, ground := Ground.data }], guard := none })) (v := ?_) rfl (by kernel_rfl) (by kernel_rfl) (by kernel_rfl) (fun _ _ _ h => h) (Or.inl ⟨by rfl, ?_⟩) hHeld ?_
       rotate_left
       · intro w hSw
         (try dsimp only at hSw)
         go_simp
         try with_reducible rfl
       try simp only [Act.put, List.setIfInBounds_toArray, List.set_cons_zero, List.set_cons_succ])
    | fail
    first
    | (refine wpAnyH_take (i := 2) (oi := ({ dst := some 13, op := Op.move (Operand.tmp 5), type := 4, pos := "data.go:39", after := #[], guard := none })) (v := ?_) rfl (by kernel_rfl) (by kernel_rfl) (by kernel_rfl) (fun _ _ _ h => h) (Or.inl ⟨by rfl, ?_⟩) hHeld ?_
       rotate_left
       · intro w hSw
         (try dsimp only at hSw)
         go_simp
         try with_reducible rfl
       try simp only [Act.put, List.setIfInBounds_toArray, List.set_cons_zero, List.set_cons_succ])
    | fail
    first
    | (refine wpAnyH_take (i := 3) (oi := ({ dst := some 14, op := Op.move (Operand.tmp 13), type := 4, pos := "data.go:39", after := #[{ on := 2, ground := Ground.data }], guard := none })) (v := ?_) rfl (by kernel_rfl) (by kernel_rfl) (by kernel_rfl) (fun _ _ _ h => h) (Or.inl ⟨by rfl, ?_⟩) hHeld ?_
       rotate_left
       · intro w hSw
         (try dsimp only at hSw)
         go_simp
         try with_reducible rfl
       try simp only [Act.put, List.setIfInBounds_toArray, List.set_cons_zero, List.set_cons_succ])
    | fail
    first
    | (refine wpAnyH_take (i := 4) (oi := ({ dst := some 15, op := Op.load 26 (Operand.tmp 4), type := 26, pos := "data.go:39", after := #[{ on := 3, ground := Ground.guard }], guard := some (3, true) })) (v := undef) rfl (by kernel_rfl) (by kernel_rfl) (by kernel_rfl) (fun _ _ _ h => h) (Or.inr ⟨by rfl, rfl⟩) hHeld ?_
       try simp only [Act.put, List.setIfInBounds_toArray, List.set_cons_zero, List.set_cons_succ])
    | fail
    first
    | (refine wpAnyH_take (i := 5) (oi := ({ dst := some 16, op := Op.fieldAddr 26 (Operand.tmp 4) 1, type := 0, pos := "data.go:39", after := #[{ on := 3, ground := Ground.guard }], guard := some (3, true) })) (v := undef) rfl (by kernel_rfl) (by kernel_rfl) (by kernel_rfl) (fun _ _ _ h => h) (Or.inr ⟨by rfl, rfl⟩) hHeld ?_
       try simp only [Act.put, List.setIfInBounds_toArray, List.set_cons_zero, List.set_cons_succ])
    | fail
    first
    | (refine wpAnyH_take (i := 6) (oi := ({ dst := some 17, op := Op.load 22 (Operand.tmp 16), type := 22, pos := "data.go:39", after := #[{ on := 5, ground := Ground.data }, { on := 3, ground := Ground.guard }], guard := some (3, true) })) (v := undef) rfl (by kernel_rfl) (by kernel_rfl) (by kernel_rfl) (fun _ _ _ h => h) (Or.inr ⟨by rfl, rfl⟩) hHeld ?_
       try simp only [Act.put, List.setIfInBounds_toArray, List.set_cons_zero, List.set_cons_succ])
    | fail
    first
    | (refine wpAnyH_take (i := 7) (oi := ({ dst := some 18, op := Op.call { callee := Callee.value (Operand.func 29), args := #[Operand.tmp 17], argTypes := #[22] }, type := 26, pos := "data.go:39", after := #[{ on := 6, ground := Ground.data }, { on := 3, ground := Ground.chain }, { on := 3, ground := Ground.guard }], guard := some (3, true) })) (v := undef) rfl (by kernel_rfl) (by kernel_rfl) (by kernel_rfl) (fun _ _ _ h => h) (Or.inr ⟨by rfl, rfl⟩) hHeld ?_
       try simp only [Act.put, List.setIfInBounds_toArray, List.set_cons_zero, List.set_cons_succ])
    | fail
    first
    | (refine wpAnyH_take (i := 8) (oi := ({ dst := some 19, op := Op.call { callee := Callee.value (Operand.func 19), args := #[Operand.tmp 15, Operand.tmp 18], argTypes := #[26, 26] }, type := 4, pos := "data.go:39", after := #[{ on := 4, ground := Ground.data }, { on := 7, ground := Ground.data }, { on := 7, ground := Ground.chain }, { on := 3, ground := Ground.guard }], guard := some (3, true) })) (v := undef) rfl (by kernel_rfl) (by kernel_rfl) (by kernel_rfl) (fun _ _ _ h => h) (Or.inr ⟨by rfl, rfl⟩) hHeld ?_
       try simp only [Act.put, List.setIfInBounds_toArray, List.set_cons_zero, List.set_cons_succ])
    | fail
    first
    | (refine wpAnyH_take (i := 9) (oi := ({ dst := some 20, op := Op.pick (Operand.tmp 14) (Operand.tmp 19) (Operand.const (Value.bool false)), type := 4, pos := "data.go:39", after := #[{ on := 3, ground := Ground.data }, { on := 8, ground := Ground.data }], guard := none })) (v := ?_) rfl (by kernel_rfl) (by kernel_rfl) (by kernel_rfl) (fun _ _ _ h => h) (Or.inl ⟨by rfl, ?_⟩) hHeld ?_
       rotate_left
       · intro w hSw
         (try dsimp only at hSw)
         go_simp
         try with_reducible rfl
       try simp only [Act.put, List.setIfInBounds_toArray, List.set_cons_zero, List.set_cons_succ])
    | fail
    first
    | (refine wpAnyH_take (i := 10) (oi := ({ dst := some 21, op := Op.move (Operand.tmp 20), type := 4, pos := "data.go:39", after := #[{ on := 9, ground := Ground.data }, { on := 8, ground := Ground.chain }], guard := none })) (v := ?_) rfl (by kernel_rfl) (by kernel_rfl) (by kernel_rfl) (fun _ _ _ h => h) (Or.inl ⟨by rfl, ?_⟩) hHeld ?_
       rotate_left
       · intro w hSw
         (try dsimp only at hSw)
         go_simp
         try with_reducible rfl
       try simp only [Act.put, List.setIfInBounds_toArray, List.set_cons_zero, List.set_cons_succ])
    | fail
    first
    | (refine wpAnyH_take (i := 11) (oi := ({ dst := some 22, op := Op.fieldAddr 26 (Operand.tmp 4) 1, type := 0, pos := "data.go:39", after := #[{ on := 10, ground := Ground.guard }, { on := 15, ground := Ground.gcOnly Departure.lateStores }], guard := some (10, true) })) (v := undef) rfl (by kernel_rfl) (by kernel_rfl) (by kernel_rfl) (fun _ _ _ h => h) (Or.inr ⟨by rfl, rfl⟩) hHeld ?_
       try simp only [Act.put, List.setIfInBounds_toArray, List.set_cons_zero, List.set_cons_succ])
    | fail
    first
    | (refine wpAnyH_take (i := 12) (oi := ({ dst := some 23, op := Op.load 22 (Operand.tmp 22), type := 22, pos := "data.go:39", after := #[{ on := 11, ground := Ground.data }, { on := 10, ground := Ground.guard }, { on := 15, ground := Ground.gcOnly Departure.lateStores }], guard := some (10, true) })) (v := undef) rfl (by kernel_rfl) (by kernel_rfl) (by kernel_rfl) (fun _ _ _ h => h) (Or.inr ⟨by rfl, rfl⟩) hHeld ?_
       try simp only [Act.put, List.setIfInBounds_toArray, List.set_cons_zero, List.set_cons_succ])
    | fail
    first
    | (refine wpAnyH_take (i := 13) (oi := ({ dst := some 24, op := Op.binOp BinOp.leq 22 (Operand.tmp 23) (Operand.const (Value.int IntKind.u64 1099511627776)) 22, type := 4, pos := "data.go:39", after := #[{ on := 12, ground := Ground.data }, { on := 10, ground := Ground.guard }, { on := 15, ground := Ground.gcOnly Departure.lateStores }], guard := some (10, true) })) (v := undef) rfl (by kernel_rfl) (by kernel_rfl) (by kernel_rfl) (fun _ _ _ h => h) (Or.inr ⟨by rfl, rfl⟩) hHeld ?_
       try simp only [Act.put, List.setIfInBounds_toArray, List.set_cons_zero, List.set_cons_succ])
    | fail
    first
    | (refine wpAnyH_take (i := 14) (oi := ({ dst := some 25, op := Op.pick (Operand.tmp 21) (Operand.tmp 24) (Operand.const (Value.bool false)), type := 4, pos := "data.go:39", after := #[{ on := 10, ground := Ground.data }, { on := 13, ground := Ground.data }, { on := 15, ground := Ground.gcOnly Departure.lateStores }], guard := none })) (v := ?_) rfl (by kernel_rfl) (by kernel_rfl) (by kernel_rfl) (fun _ _ _ h => h) (Or.inl ⟨by rfl, ?_⟩) hHeld ?_
       rotate_left
       · intro w hSw
         (try dsimp only at hSw)
         go_simp
         try with_reducible rfl
       try simp only [Act.put, List.setIfInBounds_toArray, List.set_cons_zero, List.set_cons_succ])
    | fail
    first
    | (refine wpAnyH_take (i := 15) (oi := ({ dst := some 2, op := Op.assign (Operand.tmp 12), type := 22, pos := "data.go:39", after := #[{ on := 1, ground := Ground.data }, { on := 10, ground := Ground.chain }, { on := 0, ground := Ground.phase }, { on := 1, ground := Ground.phase }, { on := 2, ground := Ground.textOnly Departure.lateStores }, { on := 3, ground := Ground.textOnly Departure.lateStores }, { on := 4, ground := Ground.textOnly Departure.lateStores }, { on := 5, ground := Ground.textOnly Departure.lateStores }, { on := 6, ground := Ground.textOnly Departure.lateStores }, { on := 7, ground := Ground.textOnly Departure.lateStoresUnsure }, { on := 8, ground := Ground.textOnly Departure.lateStoresUnsure }, { on := 9, ground := Ground.textOnly Departure.lateStores }, { on := 10, ground := Ground.textOnly Departure.lateStores }, { on := 11, ground := Ground.textOnly Departure.lateStores }, { on := 12, ground := Ground.textOnly Departure.lateStores }, { on := 13, ground := Ground.textOnly Departure.lateStores }, { on := 14, ground := Ground.textOnly Departure.lateStores }], guard := none })) (v := ?_) rfl (by kernel_rfl) (by kernel_rfl) (by kernel_rfl) (fun _ _ _ h => h) (Or.inl ⟨by rfl, ?_⟩) hHeld ?_
       rotate_left
       · intro w hSw
         (try dsimp only at hSw)
         go_simp
         try with_reducible rfl
       try simp only [Act.put, List.setIfInBounds_toArray, List.set_cons_zero, List.set_cons_succ])
    | fail
    first
    | (refine wpAnyH_take (i := 16) (oi := ({ dst := some 3, op := Op.assign (Operand.tmp 25), type := 4, pos := "data.go:39", after := #[{ on := 14, ground := Ground.data }, { on := 15, ground := Ground.chain }, { on := 0, ground := Ground.phase }, { on := 1, ground := Ground.phase }, { on := 2, ground := Ground.phase }, { on := 3, ground := Ground.phase }, { on := 4, ground := Ground.phase }, { on := 5, ground := Ground.phase }, { on := 6, ground := Ground.phase }, { on := 7, ground := Ground.phase }, { on := 8, ground := Ground.phase }, { on := 9, ground := Ground.phase }, { on := 10, ground := Ground.phase }, { on := 11, ground := Ground.phase }, { on := 12, ground := Ground.phase }, { on := 13, ground := Ground.phase }, { on := 14, ground := Ground.phase }, { on := 15, ground := Ground.phase }], guard := none })) (v := ?_) rfl (by kernel_rfl) (by kernel_rfl) (by kernel_rfl) (fun _ _ _ h => h) (Or.inl ⟨by rfl, ?_⟩) hHeld ?_
       rotate_left
       · intro w hSw
         (try dsimp only at hSw)
         go_simp
         try with_reducible rfl
       try simp only [Act.put, List.setIfInBounds_toArray, List.set_cons_zero, List.set_cons_succ])
    | fail
    refine wpAnyH_done (by kernel_rfl) ?_ _
    go_wp2_with fail
    exact bodyPost_ret (v := .tuple #[.int .u64 n, .bool false]) (by simp [results, Tryd.results48, go_sem]) rfl (HF.out _ _ rfl HBd.out)
  · cases sm
    · 
      refine wp_region_held_drew (S := (fun w' => w'.cell? ⟨w1.heap.size, 0, none⟩ = some (.int .i64 kk) ∧ w'.cell? ⟨w1.heap.size, 1, none⟩ = some (.int .u64 n) ∧ w'.cell? ⟨w1.heap.size, 2, none⟩ = some (.slice A1 bl c1) ∧ w'.cell? ⟨w1.heap.size, 3, none⟩ = some (.slice A2 sl c2))) (by kernel_rfl) (KL.out _ HBd.out) (fun hHeld => ?_)
      first
      | (refine wpAnyH_take (i := 0) (oi := ({ dst := some 11, op := Op.fieldAddr 26 (Operand.tmp 4) 1, type := 0, pos := "data.go:39", after := #[], guard := none })) (v := ?_) rfl (by kernel_rfl) (by kernel_rfl) (by kernel_rfl) (fun _ _ _ h => h) (Or.inl ⟨by rfl, ?_⟩) hHeld ?_
         rotate_left
         · intro w hSw
           (try dsimp only at hSw)
           go_simp
           try with_reducible rfl
         try simp only [Act.put, List.setIfInBounds_toArray, List.set_cons_zero, List.set_cons_succ])
      | fail
      first
      | (refine wpAnyH_take (i := 1) (oi := ({ dst := some 12, op := Op.load 22 (Operand.tmp 11), type := 22, pos := "data.go:39", after := #[{ on := 0, ground := Ground.data }], guard := none })) (v := ?_) rfl (by kernel_rfl) (by kernel_rfl) (by kernel_rfl) (fun _ _ _ h => h) (Or.inl ⟨by rfl, ?_⟩) hHeld ?_
         rotate_left
         · intro w hSw
           (try dsimp only at hSw)
           go_simp
           try with_reducible rfl
         try simp only [Act.put, List.setIfInBounds_toArray, List.set_cons_zero, List.set_cons_succ])
      | fail
      first
      | (refine wpAnyH_take (i := 2) (oi := ({ dst := some 13, op := Op.move (Operand.tmp 5), type := 4, pos := "data.go:39", after := #[], guard := none })) (v := ?_) rfl (by kernel_rfl) (by kernel_rfl) (by kernel_rfl) (fun _ _ _ h => h) (Or.inl ⟨by rfl, ?_⟩) hHeld ?_
         rotate_left
         · intro w hSw
           (try dsimp only at hSw)
           go_simp
           try with_reducible rfl
         try simp only [Act.put, List.setIfInBounds_toArray, List.set_cons_zero, List.set_cons_succ])
      | fail
      first
      | (refine wpAnyH_take (i := 3) (oi := ({ dst := some 14, op := Op.move (Operand.tmp 13), type := 4, pos := "data.go:39", after := #[{ on := 2, ground := Ground.data }], guard := none })) (v := ?_) rfl (by kernel_rfl) (by kernel_rfl) (by kernel_rfl) (fun _ _ _ h => h) (Or.inl ⟨by rfl, ?_⟩) hHeld ?_
         rotate_left
         · intro w hSw
           (try dsimp only at hSw)
           go_simp
           try with_reducible rfl
         try simp only [Act.put, List.setIfInBounds_toArray, List.set_cons_zero, List.set_cons_succ])
      | fail
      first
      | (refine wpAnyH_take (i := 4) (oi := ({ dst := some 15, op := Op.load 26 (Operand.tmp 4), type := 26, pos := "data.go:39", after := #[{ on := 3, ground := Ground.guard }], guard := some (3, true) })) (v := ?_) rfl (by kernel_rfl) (by kernel_rfl) (by kernel_rfl) (fun _ _ _ h => h) (Or.inl ⟨by rfl, ?_⟩) hHeld ?_
         rotate_left
         · intro w hSw
           (try dsimp only at hSw)
           go_simp
           try with_reducible rfl
         try simp only [Act.put, List.setIfInBounds_toArray, List.set_cons_zero, List.set_cons_succ])
      | fail
      first
      | (refine wpAnyH_take (i := 5) (oi := ({ dst := some 16, op := Op.fieldAddr 26 (Operand.tmp 4) 1, type := 0, pos := "data.go:39", after := #[{ on := 3, ground := Ground.guard }], guard := some (3, true) })) (v := ?_) rfl (by kernel_rfl) (by kernel_rfl) (by kernel_rfl) (fun _ _ _ h => h) (Or.inl ⟨by rfl, ?_⟩) hHeld ?_
         rotate_left
         · intro w hSw
           (try dsimp only at hSw)
           go_simp
           try with_reducible rfl
         try simp only [Act.put, List.setIfInBounds_toArray, List.set_cons_zero, List.set_cons_succ])
      | fail
      first
      | (refine wpAnyH_take (i := 6) (oi := ({ dst := some 17, op := Op.load 22 (Operand.tmp 16), type := 22, pos := "data.go:39", after := #[{ on := 5, ground := Ground.data }, { on := 3, ground := Ground.guard }], guard := some (3, true) })) (v := ?_) rfl (by kernel_rfl) (by kernel_rfl) (by kernel_rfl) (fun _ _ _ h => h) (Or.inl ⟨by rfl, ?_⟩) hHeld ?_
         rotate_left
         · intro w hSw
           (try dsimp only at hSw)
           go_simp
           try with_reducible rfl
         try simp only [Act.put, List.setIfInBounds_toArray, List.set_cons_zero, List.set_cons_succ])
      | fail
      refine wpAnyH_ready (rs := [7]) (by kernel_rfl) (by simp) ?_
      refine AllReadyH.cons (o := ({ dst := some 18, op := Op.call { callee := Callee.value (Operand.func 29), args := #[Operand.tmp 17], argTypes := #[22] }, type := 26, pos := "data.go:39", after := #[{ on := 6, ground := Ground.data }, { on := 3, ground := Ground.chain }, { on := 3, ground := Ground.guard }], guard := some (3, true) })) rfl (fun K hK => ?_) AllReadyH.nil
      go_simp
      refine (CN.out _).mono ?_
      rintro e wA ⟨rfl, hbA⟩
      have HBA := Lib.hid (below_next HBd.out HBd.out.size hbA)
      clear hbA
      refine hK.out _ _ ?_ (fun hHeld2 => ?_)
      · (try dsimp only)
        exact KL.out _ HBA.out
      clear hK K hHeld
      rename _ => hHeld
      try simp only [Act.put, List.setIfInBounds_toArray, List.set_cons_zero, List.set_cons_succ]
      refine wpAnyH_ready (rs := [8]) (by kernel_rfl) (by simp) ?_
      refine AllReadyH.cons (o := ({ dst := some 19, op := Op.call { callee := Callee.value (Operand.func 19), args := #[Operand.tmp 15, Operand.tmp 18], argTypes := #[26, 26] }, type := 4, pos := "data.go:39", after := #[{ on := 4, ground := Ground.data }, { on := 7, ground := Ground.data }, { on := 7, ground := Ground.chain }, { on := 3, ground := Ground.guard }], guard := some (3, true) })) rfl (fun K hK => ?_) AllReadyH.nil
      go_simp
      refine (CS.out _ (below_next HBw.out HBw.out.size HBA.out)).mono ?_
      rintro e wB ⟨rfl, hbB⟩
      have HBB := Lib.hid (below_next HBA.out HBA.out.size hbB)
      clear hbB
      refine hK.out _ _ ?_ (fun hHeld2 => ?_)
      · (try dsimp only)
        exact KL.out _ HBB.out
      clear hK K hHeld
      rename _ => hHeld
      try simp only [Act.put, List.setIfInBounds_toArray, List.set_cons_zero, List.set_cons_succ]
      first
      | (refine wpAnyH_take (i := 9) (oi := ({ dst := some 20, op := Op.pick (Operand.tmp 14) (Operand.tmp 19) (Operand.const (Value.bool false)), type := 4, pos := "data.go:39", after := #[{ on := 3, ground := Ground.data }, { on := 8, ground := Ground.data }], guard := none })) (v := ?_) rfl (by kernel_rfl) (by kernel_rfl) (by kernel_rfl) (fun _ _ _ h => h) (Or.inl ⟨by rfl, ?_⟩) hHeld ?_
         rotate_left
         · intro w hSw
           (try dsimp only at hSw)
           go_simp
           try with_reducible rfl
         try simp only [Act.put, List.setIfInBounds_toArray, List.set_cons_zero, List.set_cons_succ])
      | fail
      first
      | (refine wpAnyH_take (i := 10) (oi := ({ dst := some 21, op := Op.move (Operand.tmp 20), type := 4, pos := "data.go:39", after := #[{ on := 9, ground := Ground.data }, { on := 8, ground := Ground.chain }], guard := none })) (v := ?_) rfl (by kernel_rfl) (by kernel_rfl) (by kernel_rfl) (fun _ _ _ h => h) (Or.inl ⟨by rfl, ?_⟩) hHeld ?_
         rotate_left
         · intro w hSw
           (try dsimp only at hSw)
           go_simp
           try with_reducible rfl
         try simp only [Act.put, List.setIfInBounds_toArray, List.set_cons_zero, List.set_cons_succ])
      | fail
      first
      | (refine wpAnyH_take (i := 11) (oi := ({ dst := some 22, op := Op.fieldAddr 26 (Operand.tmp 4) 1, type := 0, pos := "data.go:39", after := #[{ on := 10, ground := Ground.guard }, { on := 15, ground := Ground.gcOnly Departure.lateStores }], guard := some (10, true) })) (v := undef) rfl (by kernel_rfl) (by kernel_rfl) (by kernel_rfl) (fun _ _ _ h => h) (Or.inr ⟨by rfl, rfl⟩) hHeld ?_
         try simp only [Act.put, List.setIfInBounds_toArray, List.set_cons_zero, List.set_cons_succ])
      | fail
      first
      | (refine wpAnyH_take (i := 12) (oi := ({ dst := some 23, op := Op.load 22 (Operand.tmp 22), type := 22, pos := "data.go:39", after := #[{ on := 11, ground := Ground.data }, { on := 10, ground := Ground.guard }, { on := 15, ground := Ground.gcOnly Departure.lateStores }], guard := some (10, true) })) (v := undef) rfl (by kernel_rfl) (by kernel_rfl) (by kernel_rfl) (fun _ _ _ h => h) (Or.inr ⟨by rfl, rfl⟩) hHeld ?_
         try simp only [Act.put, List.setIfInBounds_toArray, List.set_cons_zero, List.set_cons_succ])
      | fail
      first
      | (refine wpAnyH_take (i := 13) (oi := ({ dst := some 24, op := Op.binOp BinOp.leq 22 (Operand.tmp 23) (Operand.const (Value.int IntKind.u64 1099511627776)) 22, type := 4, pos := "data.go:39", after := #[{ on := 12, ground := Ground.data }, { on := 10, ground := Ground.guard }, { on := 15, ground := Ground.gcOnly Departure.lateStores }], guard := some (10, true) })) (v := undef) rfl (by kernel_rfl) (by kernel_rfl) (by kernel_rfl) (fun _ _ _ h => h) (Or.inr ⟨by rfl, rfl⟩) hHeld ?_
         try simp only [Act.put, List.setIfInBounds_toArray, List.set_cons_zero, List.set_cons_succ])
      | fail
      first
      | (refine wpAnyH_take (i := 14) (oi := ({ dst := some 25, op := Op.pick (Operand.tmp 21) (Operand.tmp 24) (Operand.const (Value.bool false)), type := 4, pos := "data.go:39", after := #[{ on := 10, ground := Ground.data }, { on := 13, ground := Ground.data }, { on := 15, ground := Ground.gcOnly Departure.lateStores }], guard := none })) (v := ?_) rfl (by kernel_rfl) (by kernel_rfl) (by kernel_rfl) (fun _ _ _ h => h) (Or.inl ⟨by rfl, ?_⟩) hHeld ?_
         rotate_left
         · intro w hSw
           (try dsimp only at hSw)
           go_simp
           try with_reducible rfl
         try simp only [Act.put, List.setIfInBounds_toArray, List.set_cons_zero, List.set_cons_succ])
      | fail
      first
      | (refine wpAnyH_take (i := 15) (oi := ({ dst := some 2, op := Op.assign (Operand.tmp 12), type := 22, pos := "data.go:39", after := #[{ on := 1, ground := Ground.data }, { on := 10, ground := Ground.chain }, { on := 0, ground := Ground.phase }, { on := 1, ground := Ground.phase }, { on := 2, ground := Ground.textOnly Departure.lateStores }, { on := 3, ground := Ground.textOnly Departure.lateStores }, { on := 4, ground := Ground.textOnly Departure.lateStores }, { on := 5, ground := Ground.textOnly Departure.lateStores }, { on := 6, ground := Ground.textOnly Departure.lateStores }, { on := 7, ground := Ground.textOnly Departure.lateStoresUnsure }, { on := 8, ground := Ground.textOnly Departure.lateStoresUnsure }, { on := 9, ground := Ground.textOnly Departure.lateStores }, { on := 10, ground := Ground.textOnly Departure.lateStores }, { on := 11, ground := Ground.textOnly Departure.lateStores }, { on := 12, ground := Ground.textOnly Departure.lateStores }, { on := 13, ground := Ground.textOnly Departure.lateStores }, { on := 14, ground := Ground.textOnly Departure.lateStores }], guard := none })) (v := ?_) rfl (by kernel_rfl) (by kernel_rfl) (by kernel_rfl) (fun _ _ _ h => h) (Or.inl ⟨by rfl, ?_⟩) hHeld ?_
         rotate_left
         · intro w hSw
           (try dsimp only at hSw)
           go_simp
           try with_reducible rfl
         try simp only [Act.put, List.setIfInBounds_toArray, List.set_cons_zero, List.set_cons_succ])
      | fail
      first
      | (refine wpAnyH_take (i := 16) (oi := ({ dst := some 3, op := Op.assign (Operand.tmp 25), type := 4, pos := "data.go:39", after := #[{ on := 14, ground := Ground.data }, { on := 15, ground := Ground.chain }, { on := 0, ground := Ground.phase }, { on := 1, ground := Ground.phase }, { on := 2, ground := Ground.phase }, { on := 3, ground := Ground.phase }, { on := 4, ground := Ground.phase }, { on := 5, ground := Ground.phase }, { on := 6, ground := Ground.phase }, { on := 7, ground := Ground.phase }, { on := 8, ground := Ground.phase }, { on := 9, ground := Ground.phase }, { on := 10, ground := Ground.phase }, { on := 11, ground := Ground.phase }, { on := 12, ground := Ground.phase }, { on := 13, ground := Ground.phase }, { on := 14, ground := Ground.phase }, { on := 15, ground := Ground.phase }], guard := none })) (v := ?_) rfl (by kernel_rfl) (by kernel_rfl) (by kernel_rfl) (fun _ _ _ h => h) (Or.inl ⟨by rfl, ?_⟩) hHeld ?_
         rotate_left
         · intro w hSw
           (try dsimp only at hSw)
           go_simp
           try with_reducible rfl
         try simp only [Act.put, List.setIfInBounds_toArray, List.set_cons_zero, List.set_cons_succ])
      | fail
      refine wpAnyH_done (by kernel_rfl) ?_ _
      go_wp2_with fail
      exact bodyPost_ret (v := .tuple #[.int .u64 n, .bool false]) (by simp [results, Tryd.results48, go_sem]) rfl (HF.out _ _ rfl HBB.out)
    · 
      refine wp_region_held_drew (S := (fun w' => w'.cell? ⟨w1.heap.size, 0, none⟩ = some (.int .i64 kk) ∧ w'.cell? ⟨w1.heap.size, 1, none⟩ = some (.int .u64 n) ∧ w'.cell? ⟨w1.heap.size, 2, none⟩ = some (.slice A1 bl c1) ∧ w'.cell? ⟨w1.heap.size, 3, none⟩ = some (.slice A2 sl c2))) (by kernel_rfl) (KL.out _ HBd.out) (fun hHeld => ?_)
      first
      | (refine wpAnyH_take (i := 0) (oi := ({ dst := some 11, op := Op.fieldAddr 26 (Operand.tmp 4) 1, type := 0, pos := "data.go:39", after := #[], guard := none })) (v := ?_) rfl (by kernel_rfl) (by kernel_rfl) (by kernel_rfl) (fun _ _ _ h => h) (Or.inl ⟨by rfl, ?_⟩) hHeld ?_
         rotate_left
         · intro w hSw
           (try dsimp only at hSw)
           go_simp
           try with_reducible rfl
         try simp only [Act.put, List.setIfInBounds_toArray, List.set_cons_zero, List.set_cons_succ])
      | fail
      first
      | (refine wpAnyH_take (i := 1) (oi := ({ dst := some 12, op := Op.load 22 (Operand.tmp 11), type := 22, pos := "data.go:39", after := #[{ on := 0, ground := Ground.data }], guard := none })) (v := ?_) rfl (by kernel_rfl) (by kernel_rfl) (by kernel_rfl) (fun _ _ _ h => h) (Or.inl ⟨by rfl, ?_⟩) hHeld ?_
         rotate_left
         · intro w hSw
           (try dsimp only at hSw)
           go_simp
           try with_reducible rfl
         try simp only [Act.put, List.setIfInBounds_toArray, List.set_cons_zero, List.set_cons_succ])
      | fail
      first
      | (refine wpAnyH_take (i := 2) (oi := ({ dst := some 13, op := Op.move (Operand.tmp 5), type := 4, pos := "data.go:39", after := #[], guard := none })) (v := ?_) rfl (by kernel_rfl) (by kernel_rfl) (by kernel_rfl) (fun _ _ _ h => h) (Or.inl ⟨by rfl, ?_⟩) hHeld ?_
         rotate_left
         · intro w hSw
           (try dsimp only at hSw)
           go_simp
           try with_reducible rfl
         try simp only [Act.put, List.setIfInBounds_toArray, List.set_cons_zero, List.set_cons_succ])
      | fail
      first
      | (refine wpAnyH_take (i := 3) (oi := ({ dst := some 14, op := Op.move (Operand.tmp 13), type := 4, pos := "data.go:39", after := #[{ on := 2, ground := Ground.data }], guard := none })) (v := ?_) rfl (by kernel_rfl) (by kernel_rfl) (by kernel_rfl) (fun _ _ _ h => h) (Or.inl ⟨by rfl, ?_⟩) hHeld ?_
         rotate_left
         · intro w hSw
           (try dsimp only at hSw)
           go_simp
           try with_reducible rfl
         try simp only [Act.put, List.setIfInBounds_toArray, List.set_cons_zero, List.set_cons_succ])
      | fail
      first
      | (refine wpAnyH_take (i := 4) (oi := ({ dst := some 15, op := Op.load 26 (Operand.tmp 4), type := 26, pos := "data.go:39", after := #[{ on := 3, ground := Ground.guard }], guard := some (3, true) })) (v := ?_) rfl (by kernel_rfl) (by kernel_rfl) (by kernel_rfl) (fun _ _ _ h => h) (Or.inl ⟨by rfl, ?_⟩) hHeld ?_
         rotate_left
         · intro w hSw
           (try dsimp only at hSw)
           go_simp
           try with_reducible rfl
         try simp only [Act.put, List.setIfInBounds_toArray, List.set_cons_zero, List.set_cons_succ])
      | fail
      first
      | (refine wpAnyH_take (i := 5) (oi := ({ dst := some 16, op := Op.fieldAddr 26 (Operand.tmp 4) 1, type := 0, pos := "data.go:39", after := #[{ on := 3, ground := Ground.guard }], guard := some (3, true) })) (v := ?_) rfl (by kernel_rfl) (by kernel_rfl) (by kernel_rfl) (fun _ _ _ h => h) (Or.inl ⟨by rfl, ?_⟩) hHeld ?_
         rotate_left
         · intro w hSw
           (try dsimp only at hSw)
           go_simp
           try with_reducible rfl
         try simp only [Act.put, List.setIfInBounds_toArray, List.set_cons_zero, List.set_cons_succ])
      | fail
      first
      | (refine wpAnyH_take (i := 6) (oi := ({ dst := some 17, op := Op.load 22 (Operand.tmp 16), type := 22, pos := "data.go:39", after := #[{ on := 5, ground := Ground.data }, { on := 3, ground := Ground.guard }], guard := some (3, true) })) (v := ?_) rfl (by kernel_rfl) (by kernel_rfl) (by kernel_rfl) (fun _ _ _ h => h) (Or.inl ⟨by rfl, ?_⟩) hHeld ?_
         rotate_left
         · intro w hSw
           (try dsimp only at hSw)
           go_simp
           try with_reducible rfl
         try simp only [Act.put, List.setIfInBounds_toArray, List.set_cons_zero, List.set_cons_succ])
      | fail
      refine wpAnyH_ready (rs := [7]) (by kernel_rfl) (by simp) ?_
      refine AllReadyH.cons (o := ({ dst := some 18, op := Op.call { callee := Callee.value (Operand.func 29), args := #[Operand.tmp 17], argTypes := #[22] }, type := 26, pos := "data.go:39", after := #[{ on := 6, ground := Ground.data }, { on := 3, ground := Ground.chain }, { on := 3, ground := Ground.guard }], guard := some (3, true) })) rfl (fun K hK => ?_) AllReadyH.nil
      go_simp
      refine (CN.out _).mono ?_
      rintro e wA ⟨rfl, hbA⟩
      have HBA := Lib.hid (below_next HBd.out HBd.out.size hbA)
      clear hbA
      refine hK.out _ _ ?_ (fun hHeld2 => ?_)
      · (try dsimp only)
        exact KL.out _ HBA.out
      clear hK K hHeld
      rename _ => hHeld
      try simp only [Act.put, List.setIfInBounds_toArray, List.set_cons_zero, List.set_cons_succ]
      refine wpAnyH_ready (rs := [8]) (by kernel_rfl) (by simp) ?_
      refine AllReadyH.cons (o := ({ dst := some 19, op := Op.call { callee := Callee.value (Operand.func 19), args := #[Operand.tmp 15, Operand.tmp 18], argTypes := #[26, 26] }, type := 4, pos := "data.go:39", after := #[{ on := 4, ground := Ground.data }, { on := 7, ground := Ground.data }, { on := 7, ground := Ground.chain }, { on := 3, ground := Ground.guard }], guard := some (3, true) })) rfl (fun K hK => ?_) AllReadyH.nil
      go_simp
      refine (CS.out _ (below_next HBw.out HBw.out.size HBA.out)).mono ?_
      rintro e wB ⟨rfl, hbB⟩
      have HBB := Lib.hid (below_next HBA.out HBA.out.size hbB)
      clear hbB
      refine hK.out _ _ ?_ (fun hHeld2 => ?_)
      · (try dsimp only)
        exact KL.out _ HBB.out
      clear hK K hHeld
      rename _ => hHeld
      try simp only [Act.put, List.setIfInBounds_toArray, List.set_cons_zero, List.set_cons_succ]
      first
      | (refine wpAnyH_take (i := 9) (oi := ({ dst := some 20, op := Op.pick (Operand.tmp 14) (Operand.tmp 19) (Operand.const (Value.bool false)), type := 4, pos := "data.go:39", after := #[{ on := 3, ground := Ground.data }, { on := 8, ground := Ground.data }], guard := none })) (v := ?_) rfl (by kernel_rfl) (by kernel_rfl) (by kernel_rfl) (fun _ _ _ h => h) (Or.inl ⟨by rfl, ?_⟩) hHeld ?_
         rotate_left
         · intro w hSw
           (try dsimp only at hSw)
           go_simp
           try with_reducible rfl
         try simp only [Act.put, List.setIfInBounds_toArray, List.set_cons_zero, List.set_cons_succ])
      | fail
      first
      | (refine wpAnyH_take (i := 10) (oi := ({ dst := some 21, op := Op.move (Operand.tmp 20), type := 4, pos := "data.go:39", after := #[{ on := 9, ground := Ground.data }, { on := 8, ground := Ground.chain }], guard := none })) (v := ?_) rfl (by kernel_rfl) (by kernel_rfl) (by kernel_rfl) (fun _ _ _ h => h) (Or.inl ⟨by rfl, ?_⟩) hHeld ?_
         rotate_left
         · intro w hSw
           (try dsimp only at hSw)
           go_simp
           try with_reducible rfl
         try simp only [Act.put, List.setIfInBounds_toArray, List.set_cons_zero, List.set_cons_succ])
      | fail
      first
      | (refine wpAnyH_take (i := 11) (oi := ({ dst := some 22, op := Op.fieldAddr 26 (Operand.tmp 4) 1, type := 0, pos := "data.go:39", after := #[{ on := 10, ground := Ground.guard }, { on := 15, ground := Ground.gcOnly Departure.lateStores }], guard := some (10, true) })) (v := ?_) rfl (by kernel_rfl) (by kernel_rfl) (by kernel_rfl) (fun _ _ _ h => h) (Or.inl ⟨by rfl, ?_⟩) hHeld ?_
         rotate_left
         · intro w hSw
           (try dsimp only at hSw)
           go_simp
           try with_reducible rfl
         try simp only [Act.put, List.setIfInBounds_toArray, List.set_cons_zero, List.set_cons_succ])
      | fail
      first
      | (refine wpAnyH_take (i := 12) (oi := ({ dst := some 23, op := Op.load 22 (Operand.tmp 22), type := 22, pos := "data.go:39", after := #[{ on := 11, ground := Ground.data }, { on := 10, ground := Ground.guard }, { on := 15, ground := Ground.gcOnly Departure.lateStores }], guard := some (10, true) })) (v := ?_) rfl (by kernel_rfl) (by kernel_rfl) (by kernel_rfl) (fun _ _ _ h => h) (Or.inl ⟨by rfl, ?_⟩) hHeld ?_
         rotate_left
         · intro w hSw
           (try dsimp only at hSw)
           go_simp
           try with_reducible rfl
         try simp only [Act.put, List.setIfInBounds_toArray, List.set_cons_zero, List.set_cons_succ])
      | fail
      first
      | (refine wpAnyH_take (i := 13) (oi := ({ dst := some 24, op := Op.binOp BinOp.leq 22 (Operand.tmp 23) (Operand.const (Value.int IntKind.u64 1099511627776)) 22, type := 4, pos := "data.go:39", after := #[{ on := 12, ground := Ground.data }, { on := 10, ground := Ground.guard }, { on := 15, ground := Ground.gcOnly Departure.lateStores }], guard := some (10, true) })) (v := ?_) rfl (by kernel_rfl) (by kernel_rfl) (by kernel_rfl) (fun _ _ _ h => h) (Or.inl ⟨by rfl, ?_⟩) hHeld ?_
         rotate_left
         · intro w hSw
           (try dsimp only at hSw)
           go_simp
           try with_reducible rfl
         try simp only [Act.put, List.setIfInBounds_toArray, List.set_cons_zero, List.set_cons_succ])
      | fail
      first
      | (refine wpAnyH_take (i := 14) (oi := ({ dst := some 25, op := Op.pick (Operand.tmp 21) (Operand.tmp 24) (Operand.const (Value.bool false)), type := 4, pos := "data.go:39", after := #[{ on := 10, ground := Ground.data }, { on := 13, ground := Ground.data }, { on := 15, ground := Ground.gcOnly Departure.lateStores }], guard := none })) (v := ?_) rfl (by kernel_rfl) (by kernel_rfl) (by kernel_rfl) (fun _ _ _ h => h) (Or.inl ⟨by rfl, ?_⟩) hHeld ?_
         rotate_left
         · intro w hSw
           (try dsimp only at hSw)
           go_simp
           try with_reducible rfl
         try simp only [Act.put, List.setIfInBounds_toArray, List.set_cons_zero, List.set_cons_succ])
      | fail
      first
      | (refine wpAnyH_take (i := 15) (oi := ({ dst := some 2, op := Op.assign (Operand.tmp 12), type := 22, pos := "data.go:39", after := #[{ on := 1, ground := Ground.data }, { on := 10, ground := Ground.chain }, { on := 0, ground := Ground.phase }, { on := 1, ground := Ground.phase }, { on := 2, ground := Ground.textOnly Departure.lateStores }, { on := 3, ground := Ground.textOnly Departure.lateStores }, { on := 4, ground := Ground.textOnly Departure.lateStores }, { on := 5, ground := Ground.textOnly Departure.lateStores }, { on := 6, ground := Ground.textOnly Departure.lateStores }, { on := 7, ground := Ground.textOnly Departure.lateStoresUnsure }, { on := 8, ground := Ground.textOnly Departure.lateStoresUnsure }, { on := 9, ground := Ground.textOnly Departure.lateStores }, { on := 10, ground := Ground.textOnly Departure.lateStores }, { on := 11, ground := Ground.textOnly Departure.lateStores }, { on := 12, ground := Ground.textOnly Departure.lateStores }, { on := 13, ground := Ground.textOnly Departure.lateStores }, { on := 14, ground := Ground.textOnly Departure.lateStores }], guard := none })) (v := ?_) rfl (by kernel_rfl) (by kernel_rfl) (by kernel_rfl) (fun _ _ _ h => h) (Or.inl ⟨by rfl, ?_⟩) hHeld ?_
         rotate_left
         · intro w hSw
           (try dsimp only at hSw)
           go_simp
           try with_reducible rfl
         try simp only [Act.put, List.setIfInBounds_toArray, List.set_cons_zero, List.set_cons_succ])
      | fail
      first
      | (refine wpAnyH_take (i := 16) (oi := ({ dst := some 3, op := Op.assign (Operand.tmp 25), type := 4, pos := "data.go:39", after := #[{ on := 14, ground := Ground.data }, { on := 15, ground := Ground.chain }, { on := 0, ground := Ground.phase }, { on := 1, ground := Ground.phase }, { on := 2, ground := Ground.phase }, { on := 3, ground := Ground.phase }, { on := 4, ground := Ground.phase }, { on := 5, ground := Ground.phase }, { on := 6, ground := Ground.phase }, { on := 7, ground := Ground.phase }, { on := 8, ground := Ground.phase }, { on := 9, ground := Ground.phase }, { on := 10, ground := Ground.phase }, { on := 11, ground := Ground.phase }, { on := 12, ground := Ground.phase }, { on := 13, ground := Ground.phase }, { on := 14, ground := Ground.phase }, { on := 15, ground := Ground.phase }], guard := none })) (v := ?_) rfl (by kernel_rfl) (by kernel_rfl) (by kernel_rfl) (fun _ _ _ h => h) (Or.inl ⟨by rfl, ?_⟩) hHeld ?_
         rotate_left
         · intro w hSw
           (try dsimp only at hSw)
           go_simp
           try with_reducible rfl
         try simp only [Act.put, List.setIfInBounds_toArray, List.set_cons_zero, List.set_cons_succ])
      | fail
      refine wpAnyH_done (by kernel_rfl) ?_ _
      go_wp2_with fail
      exact bodyPost_ret (v := .tuple #[.int .u64 n, .bool (decide (n ≤ 1099511627776))]) (by simp [results, Tryd.results48, go_sem]) rfl (HF.out _ _ (by simp) HBB.out)
end Go.Proofs.YthknkdphofjmhaaDoor.Can
