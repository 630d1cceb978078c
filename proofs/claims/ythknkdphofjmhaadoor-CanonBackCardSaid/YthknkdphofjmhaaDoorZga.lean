/- Texts of my own, laid together: PrimP, PrimSz. -/
import Derived.Test.YthknkdphofjmhaaDoorIdP
import Derived.Test.YthknkdphofjmhaaDoorZg7
import Derived.Test.YthknkdphofjmhaaDoorZg8
import Derived.Test.YthknkdphofjmhaaDoorCbSame
import Derived.Test.YthknkdphofjmhaaDoorZg4
import Derived.Deep.RegionHeld3
/- Sealed blocks, plain: what a sum is, what sealed items are, what an opened item's are. -/
namespace Go.Proofs.YthknkdphofjmhaaDoor.Prim
open Go.RowKit Wd Cb Eid

/-- A list of items. -/
abbrev lst (l : List Itm) : Itm := .mk 4 0 [] l
/-- Items, and bytes behind them. -/
abbrev withB (l : List Itm) (b : List Int) : Itm := lst (l ++ [.mk 2 0 b []])
def zeros (k : Nat) : List Int := List.replicate k 0
/-- Two or four bytes of a sum. -/
def sumOf (k : Nat) (bs : List Int) : Nat := if k = 1 then SumP.short (SumW.nb bs) else SumP.long (SumW.nb bs)
def sumB (k : Nat) (bs : List Int) : List Int := HeadP.be (sumOf k bs) (2 * k)
theorem sumB_length (k : Nat) (bs : List Int) : (sumB k bs).length = 2 * k := HeadP.be_length _ _
/-- What is written when the sum is reckoned. -/
def blank (l : List Itm) (k : Nat) : Itm := if k = 0 then lst l else withB l (zeros (2 * k))
/-- What comes of sealing. -/
def sealed (l : List Itm) (k : Nat) : Itm := if k = 0 then lst l else withB l (sumB k (enc (blank l k)))
/-- The type that an item says. -/
def typ (z : Itm) : Int := if same z (iN 0) then 0 else if same z (iN 1) then 1 else if same z (iN 2) then 2 else -1
def typAt (l : List Itm) (a : Int) : Int := if a < 0 ∨ (l.length : Int) ≤ a then -1 else typ (l.getD a.toNat (iN 9))
def sealE (l : List Itm) (a : Int) : Int := if a < 0 ∨ (l.length : Int) ≤ a then 1 else if typAt l a < 0 then 3 else if right (blank l (typAt l a).toNat) then 0 else 3
def sealI (l : List Itm) (a : Int) : Itm := if sealE l a = 0 then sealed l (typAt l a).toNat else iN 0
/-- Where the sum stands, or the end. -/
def cutN (x : Itm) (k : Nat) : Nat := if k = 0 then x.sub.length else x.sub.length - 1
def lastOk (x : Itm) (k : Nat) : Bool := k == 0 || ((x.sub.getD (x.sub.length - 1) (iN 0)).kind == 2 && decide ((x.sub.getD (x.sub.length - 1) (iN 0)).bs.length = 2 * k))
def openE (x : Itm) (a : Int) : Int :=
  if right x && decide (0 ≤ typAt x.sub a) && lastOk x (typAt x.sub a).toNat then
    if same (sealI (x.sub.take (cutN x (typAt x.sub a).toNat)) a) x then 0 else 10
  else 3
def openL (x : Itm) (a : Int) : List Itm := if openE x a = 0 then x.sub.take (cutN x (typAt x.sub a).toNat) else []
end Go.Proofs.YthknkdphofjmhaaDoor.Prim
/- What a sum's type says of its size: the walk of sumSize. -/
namespace Go.Proofs.YthknkdphofjmhaaDoor.Prim
open Go.RowKit Wd Cb Eid CbSame CbCopy

/-- The table of sizes lies there. -/
structure Sz (w : World) : Prop where
  lt : 0 < w.heap.size
  c0 : w.cell? ⟨0, 0, none⟩ = some (.int .i64 0)
  c1 : w.cell? ⟨0, 1, none⟩ = some (.int .i64 2)
  c2 : w.cell? ⟨0, 2, none⟩ = some (.int .i64 4)
theorem Sz.below {w w' : World} {B : Nat} (h : Sz w) (hb : Below B w w') (hB : w.heap.size ≤ B) : Sz w' :=
  ⟨Nat.lt_of_lt_of_le h.lt hb.size, (hb.cell (p := ⟨0, 0, none⟩) (Nat.lt_of_lt_of_le h.lt hB)).trans h.c0, (hb.cell (p := ⟨0, 1, none⟩) (Nat.lt_of_lt_of_le h.lt hB)).trans h.c1, (hb.cell (p := ⟨0, 2, none⟩) (Nat.lt_of_lt_of_le h.lt hB)).trans h.c2⟩

theorem cells4 {w : World} {g : Nat} {t : TypeId} {a b c d : Value} (h : Blk w g t #[a, b, c, d]) : w.cell? ⟨g, 0, none⟩ = some a ∧ w.cell? ⟨g, 1, none⟩ = some b ∧ w.cell? ⟨g, 2, none⟩ = some c ∧ w.cell? ⟨g, 3, none⟩ = some d :=
  ⟨by simpa using h.cell 0, by simpa using h.cell 1, by simpa using h.cell 2, by simpa using h.cell 3⟩
theorem typ_no {x : Itm} (h : same x (iN x.num) = false) : typ x = -1 := by
  have hn : ∀ n, same x (iN n) = true → False := fun n hn => by
    obtain rfl := (same_iff _ _).1 hn
    rw [show (iN n).num = n from rfl, hn] at h
    cases h
  unfold typ
  rw [if_neg (fun q => hn 0 q), if_neg (fun q => hn 1 q), if_neg (fun q => hn 2 q)]
theorem typ_num {x : Itm} {n : Int} (h : same x (iN n) = true) : x = iN n := (same_iff _ _).1 h
theorem typ_big {x : Itm} (h : 3 ≤ x.num) : typ x = -1 := by
  have hn : ∀ n, n < 3 → same x (iN n) = true → False := fun n h3 hn => by
    obtain rfl := (same_iff _ _).1 hn
    have : (iN n).num = n := rfl
    omega
  unfold typ
  rw [if_neg (fun q => hn 0 (by omega) q), if_neg (fun q => hn 1 (by omega) q), if_neg (fun q => hn 2 (by omega) q)]
theorem typ_0 : typ (iN 0) = 0 := by unfold typ; rw [if_pos (same_self _)]
theorem typ_1 : typ (iN 1) = 1 := by unfold typ; rw [if_neg (by decide), if_pos (same_self _)]
theorem typ_2 : typ (iN 2) = 2 := by unfold typ; rw [if_neg (by decide), if_neg (by decide), if_pos (same_self _)]
/-- How many bytes the sum has, and whether there is a type. -/
def szv (t : Int) : Int := if t < 0 then 0 else 2 * t

set_option maxRecDepth 100000 in
set_option maxHeartbeats 4000000 in
theorem sumSize_any (l : List Itm) (A : Option Addr) (B c k : Nat) (w : World) (hv : ItemsV w 0 B l A) (hB : B ≤ w.heap.size) (hk : k < l.length) (hc : l.length ≤ c) (hm : c ≤ maxLen) (hs : size l[k] ≤ 2147483647) (hd : deep l[k] ≤ 65537) (hS : Sz w) :
    Calls Tryd.prog 30 #[.slice A l.length c, .int .i64 k] w fun e w' => e = .returned (.tuple #[.int .i64 (szv (typ l[k])), .bool (decide (0 ≤ typ l[k]))]) ∧ Below w.heap.size w w' := by
  obtain ⟨b, o, A1, c1, A2, c2, rfl, hl, hh, e0, e1, e2, e3, r1, r2, r3, r4, r5, r6, r7, r8, r9⟩ := hv.at_ hk
  unfold maxLen at hm
  generalize l[k] = x at *
  have HX0 := Lib.hid (ItemV.of r1 r2 r3 r4 r5 r6 r7 r8 r9)
  have HN := Lib.hid r2
  have HS := Lib.hid hS
  have HB := Lib.hid ((Below.refl w.heap.size w).alloc (Nat.le_refl _) (.cells #[.int .i64 x.kind, .int .u64 x.num, .slice A1 x.bs.length c1, .slice A2 x.sub.length c2] 26))
  have HK := Lib.hid (Blk.new w 26 #[.int .i64 x.kind, .int .u64 x.num, .slice A1 x.bs.length c1, .slice A2 x.sub.length c2])
  have HZ := Lib.hid (show w.heap.size ≤ (w.alloc (.cells #[.int .i64 x.kind, .int .u64 x.num, .slice A1 x.bs.length c1, .slice A2 x.sub.length c2] 26)).heap.size by simp)
  have CS : Hid (∀ W, Below w.heap.size w W → Calls Tryd.prog 19 #[.agg #[.int .i64 x.kind, .int .u64 x.num, .slice A1 x.bs.length c1, .slice A2 x.sub.length c2], .agg #[.int .i64 0, .int .u64 x.num, .slice none 0 0, .slice none 0 0]] W fun e w' => e = .returned (.bool (same x (iN x.num))) ∧ Below W.heap.size W w') := Lib.hid (fun W hW =>
    sameTop_any x (iN x.num) _ _ B W (HX0.out.below (hW.mono hB)) (ItemV.mk ⟨by omega, by omega⟩ HN.out (fun q hq => by simp at hq) (Nat.le_refl _) (by unfold maxLen; omega) .nil (Nat.le_refl _) (by unfold maxLen; omega) .nil) (Nat.le_trans hB hW.size) hs hd)
  have CN := Lib.hid (fun W => num_any x.num W HN.out.1 HN.out.2)
  have HT1 := Lib.hid (fun h => typ_big (x := x) h)
  have HT2 := Lib.hid (fun h => typ_no (x := x) h)
  have HT3 := Lib.hid (fun n h => typ_num (x := x) (n := n) h)
  have HBW := Lib.hid hB
  have j0 : (0 : Int) ≤ (k : Int) := by omega
  have j1 : (k : Int) < (l.length : Int) := by omega
  clear hv r1 r2 r3 r4 r5 r6 r7 r8 r9 hS HX0 hs hd
  generalize hxn : x.num = n at *
  generalize hxk : x.kind = kk at *
  generalize x.bs.length = bl at *
  generalize x.sub.length = sl at *
  clear hxk
  have HXN := Lib.hid hxn
  clear hxn
  go_enter Tryd.func30, Tryd.ntmps30
  go_upto_region 2 with (fail)
  clear e0 e1 e2 e3
  generalize w.alloc (.cells #[.int .i64 kk, .int .u64 n, .slice A1 bl c1, .slice A2 sl c2] 26) = W at *
  have HBd := Lib.hid (Below.refl W.heap.size W).drew
  have KL : Hid (∀ w', Below W.heap.size W w' → w'.cell? ⟨w.heap.size, 0, none⟩ = some (.int .i64 kk) ∧ w'.cell? ⟨w.heap.size, 1, none⟩ = some (.int .u64 n) ∧ w'.cell? ⟨w.heap.size, 2, none⟩ = some (.slice A1 bl c1) ∧ w'.cell? ⟨w.heap.size, 3, none⟩ = some (.slice A2 sl c2)) := Lib.hid (fun w' h => cells4 (HK.out.next h))
  by_cases h3 : 3 ≤ n
  · have ht := HT1.out h3
    have d1 : decide (n < 3) = false := decide_eq_false (by omega)
    have d2 : decide (3 ≤ n) = true := decide_eq_true h3
    have HTT := Lib.hid ht
    refine wp_region_held_drew (S := (fun w' => w'.cell? ⟨w.heap.size, 0, none⟩ = some (.int .i64 kk) ∧ w'.cell? ⟨w.heap.size, 1, none⟩ = some (.int .u64 n) ∧ w'.cell? ⟨w.heap.size, 2, none⟩ = some (.slice A1 bl c1) ∧ w'.cell? ⟨w.heap.size, 3, none⟩ = some (.slice A2 sl c2))) (by kernel_rfl) (KL.out _ HBd.out) (fun hHeld => ?_)
    first
    | (refine wpAnyH_take (i := 0) (oi := ({ dst := some 11, op := Op.fieldAddr 26 (Operand.tmp 6) 1, type := 0, pos := "seal.go:26", after := #[], guard := none })) (v := ?_) rfl (by kernel_rfl) (by kernel_rfl) (by kernel_rfl) (fun _ _ _ h => h) (Or.inl ⟨by rfl, ?_⟩) hHeld ?_
       rotate_left
       · intro w hSw
         (try dsimp only at hSw)
         go_simp
         try with_reducible rfl
       try simp only [Act.put, List.setIfInBounds_toArray, List.set_cons_zero, List.set_cons_succ])
    | fail
    first
    | (refine wpAnyH_take (i := 1) (oi := ({ dst := some 12, op := Op.load 22 (Operand.tmp 11), type := 22, pos := "seal.go:26", after := #[{ on := 0, ground := Ground.data }], guard := none })) (v := ?_) rfl (by kernel_rfl) (by kernel_rfl) (by kernel_rfl) (fun _ _ _ h => h) (Or.inl ⟨by rfl, ?_⟩) hHeld ?_
       rotate_left
       · intro w hSw
         (try dsimp only at hSw)
         go_simp
         try with_reducible rfl
       try simp only [Act.put, List.setIfInBounds_toArray, List.set_cons_zero, List.set_cons_succ])
    | fail
    first
    | (refine wpAnyH_take (i := 2) (oi := ({ dst := some 13, op := Op.binOp BinOp.geq 22 (Operand.tmp 12) (Operand.const (Value.int IntKind.u64 3)) 22, type := 4, pos := "seal.go:26", after := #[{ on := 1, ground := Ground.data }], guard := none })) (v := ?_) rfl (by kernel_rfl) (by kernel_rfl) (by kernel_rfl) (fun _ _ _ h => h) (Or.inl ⟨by rfl, ?_⟩) hHeld ?_
       rotate_left
       · intro w hSw
         (try dsimp only at hSw)
         go_simp
         try with_reducible rfl
       try simp only [Act.put, List.setIfInBounds_toArray, List.set_cons_zero, List.set_cons_succ])
    | fail
    first
    | (refine wpAnyH_take (i := 3) (oi := ({ dst := some 14, op := Op.move (Operand.tmp 13), type := 4, pos := "seal.go:26", after := #[{ on := 2, ground := Ground.data }], guard := none })) (v := ?_) rfl (by kernel_rfl) (by kernel_rfl) (by kernel_rfl) (fun _ _ _ h => h) (Or.inl ⟨by rfl, ?_⟩) hHeld ?_
       rotate_left
       · intro w hSw
         (try dsimp only at hSw)
         go_simp
         try with_reducible rfl
       try simp only [Act.put, List.setIfInBounds_toArray, List.set_cons_zero, List.set_cons_succ])
    | fail
    first
    | (refine wpAnyH_take (i := 4) (oi := ({ dst := some 15, op := Op.load 26 (Operand.tmp 6), type := 26, pos := "seal.go:26", after := #[{ on := 3, ground := Ground.guard }], guard := some (3, false) })) (v := undef) rfl (by kernel_rfl) (by kernel_rfl) (by kernel_rfl) (fun _ _ _ h => h) (Or.inr ⟨by rfl, rfl⟩) hHeld ?_
       try simp only [Act.put, List.setIfInBounds_toArray, List.set_cons_zero, List.set_cons_succ])
    | fail
    first
    | (refine wpAnyH_take (i := 5) (oi := ({ dst := some 16, op := Op.fieldAddr 26 (Operand.tmp 6) 1, type := 0, pos := "seal.go:26", after := #[{ on := 3, ground := Ground.guard }], guard := some (3, false) })) (v := undef) rfl (by kernel_rfl) (by kernel_rfl) (by kernel_rfl) (fun _ _ _ h => h) (Or.inr ⟨by rfl, rfl⟩) hHeld ?_
       try simp only [Act.put, List.setIfInBounds_toArray, List.set_cons_zero, List.set_cons_succ])
    | fail
    first
    | (refine wpAnyH_take (i := 6) (oi := ({ dst := some 17, op := Op.load 22 (Operand.tmp 16), type := 22, pos := "seal.go:26", after := #[{ on := 5, ground := Ground.data }, { on := 3, ground := Ground.guard }], guard := some (3, false) })) (v := undef) rfl (by kernel_rfl) (by kernel_rfl) (by kernel_rfl) (fun _ _ _ h => h) (Or.inr ⟨by rfl, rfl⟩) hHeld ?_
       try simp only [Act.put, List.setIfInBounds_toArray, List.set_cons_zero, List.set_cons_succ])
    | fail
    first
    | (refine wpAnyH_take (i := 7) (oi := ({ dst := some 18, op := Op.call { callee := Callee.value (Operand.func 29), args := #[Operand.tmp 17], argTypes := #[22] }, type := 26, pos := "seal.go:26", after := #[{ on := 6, ground := Ground.data }, { on := 3, ground := Ground.chain }, { on := 3, ground := Ground.guard }], guard := some (3, false) })) (v := undef) rfl (by kernel_rfl) (by kernel_rfl) (by kernel_rfl) (fun _ _ _ h => h) (Or.inr ⟨by rfl, rfl⟩) hHeld ?_
       try simp only [Act.put, List.setIfInBounds_toArray, List.set_cons_zero, List.set_cons_succ])
    | fail
    first
    | (refine wpAnyH_take (i := 8) (oi := ({ dst := some 19, op := Op.call { callee := Callee.value (Operand.func 19), args := #[Operand.tmp 15, Operand.tmp 18], argTypes := #[26, 26] }, type := 4, pos := "seal.go:26", after := #[{ on := 4, ground := Ground.data }, { on := 7, ground := Ground.data }, { on := 7, ground := Ground.chain }, { on := 3, ground := Ground.guard }], guard := some (3, false) })) (v := undef) rfl (by kernel_rfl) (by kernel_rfl) (by kernel_rfl) (fun _ _ _ h => h) (Or.inr ⟨by rfl, rfl⟩) hHeld ?_
       try simp only [Act.put, List.setIfInBounds_toArray, List.set_cons_zero, List.set_cons_succ])
    | fail
    first
    | (refine wpAnyH_take (i := 9) (oi := ({ dst := some 20, op := Op.unOp UnOp.not 4 (Operand.tmp 19), type := 4, pos := "seal.go:26", after := #[{ on := 8, ground := Ground.data }, { on := 3, ground := Ground.guard }], guard := some (3, false) })) (v := undef) rfl (by kernel_rfl) (by kernel_rfl) (by kernel_rfl) (fun _ _ _ h => h) (Or.inr ⟨by rfl, rfl⟩) hHeld ?_
       try simp only [Act.put, List.setIfInBounds_toArray, List.set_cons_zero, List.set_cons_succ])
    | fail
    first
    | (refine wpAnyH_take (i := 10) (oi := ({ dst := some 21, op := Op.pick (Operand.tmp 14) (Operand.const (Value.bool true)) (Operand.tmp 20), type := 4, pos := "seal.go:26", after := #[{ on := 3, ground := Ground.data }, { on := 9, ground := Ground.data }], guard := none })) (v := ?_) rfl (by kernel_rfl) (by kernel_rfl) (by kernel_rfl) (fun _ _ _ h => h) (Or.inl ⟨by rfl, ?_⟩) hHeld ?_
       rotate_left
       · intro w hSw
         (try dsimp only at hSw)
         go_simp
         try with_reducible rfl
       try simp only [Act.put, List.setIfInBounds_toArray, List.set_cons_zero, List.set_cons_succ])
    | fail
    refine wpAnyH_done (by kernel_rfl) ?_ _
    clear ht HT1 HT2 HT3 CS CN
    go_wp2_with fail
    exact bodyPost_ret (v := .tuple #[.int .i64 0, .bool false]) (by simp [results, Tryd.results30, go_sem]) rfl ⟨by rw [HTT.out]; rfl, (below_next HB.out HZ.out HBd.out)⟩
  · have d2 : decide (3 ≤ n) = false := decide_eq_false h3
    cases hsm : same x (iN n)
    · have ht := HT2.out hsm
      have HTT := Lib.hid ht
      rw [hsm] at CS
      clear ht HT1 HT2 HT3 hsm
      obtain ⟨k0, k1, k2, k3⟩ := KL.out _ (Below.refl W.heap.size W)
      go_region_held3 (fun w' => w'.cell? ⟨w.heap.size, 0, none⟩ = some (.int .i64 kk) ∧ w'.cell? ⟨w.heap.size, 1, none⟩ = some (.int .u64 n) ∧ w'.cell? ⟨w.heap.size, 2, none⟩ = some (.slice A1 bl c1) ∧ w'.cell? ⟨w.heap.size, 3, none⟩ = some (.slice A2 sl c2))
        (first | with_reducible exact KL.out _ HBd.out | with_reducible exact KL.out _ HBA.out | with_reducible exact KL.out _ HBB.out | fail)
        (first | (go_at_call 19; (with_reducible refine (CS.out _ (below_next HB.out HZ.out HBA.out)).mono ?_); rintro e wB ⟨rfl, hbB⟩; have HBB := Lib.hid (below_next HBA.out HBA.out.size hbB); clear hbB) | (go_at_call 29; (with_reducible refine (CN.out _).mono ?_); rintro e wA ⟨rfl, hbA⟩; have HBA := Lib.hid (below_next HBd.out HBd.out.size hbA); clear hbA) | fail)
      clear CS CN k0 k1 k2 k3
      go_wp2_with fail
      exact bodyPost_ret (v := .tuple #[.int .i64 0, .bool false]) (by simp [results, Tryd.results30, go_sem]) rfl ⟨by rw [HTT.out]; rfl, (below_next HB.out HZ.out HBB.out)⟩
    · obtain rfl := HT3.out n hsm
      rw [hsm] at CS
      have hn0 := HN.out.1
      rcases (show n = 0 ∨ n = 1 ∨ n = 2 by omega) with rfl | rfl | rfl
      · clear hsm HT1 HT2 HT3 hn0
        obtain ⟨k0, k1, k2, k3⟩ := KL.out _ (Below.refl W.heap.size W)
        go_region_held3 (fun w' => w'.cell? ⟨w.heap.size, 0, none⟩ = some (.int .i64 kk) ∧ w'.cell? ⟨w.heap.size, 1, none⟩ = some (.int .u64 0) ∧ w'.cell? ⟨w.heap.size, 2, none⟩ = some (.slice A1 bl c1) ∧ w'.cell? ⟨w.heap.size, 3, none⟩ = some (.slice A2 sl c2))
          (first | with_reducible exact KL.out _ HBd.out | with_reducible exact KL.out _ HBA.out | with_reducible exact KL.out _ HBB.out | fail)
          (first | (go_at_call 19; (with_reducible refine (CS.out _ (below_next HB.out HZ.out HBA.out)).mono ?_); rintro e wB ⟨rfl, hbB⟩; have HBB := Lib.hid (below_next HBA.out HBA.out.size hbB); clear hbB) | (go_at_call 29; (with_reducible refine (CN.out _).mono ?_); rintro e wA ⟨rfl, hbA⟩; have HBA := Lib.hid (below_next HBd.out HBd.out.size hbA); clear hbA) | fail)
        clear CS CN k0 k1 k2 k3
        obtain ⟨_, s0, s1, s2⟩ := HS.out.below (below_next HB.out HZ.out HBB.out) (Nat.le_refl _)
        obtain ⟨k0, k1, k2, k3⟩ := KL.out _ HBB.out
        go_wp2_with fail
        exact bodyPost_ret (v := .tuple #[.int .i64 0, .bool true]) (by simp [results, Tryd.results30, go_sem]) rfl ⟨by rw [typ_0]; rfl, (below_next HB.out HZ.out HBB.out)⟩
      · clear hsm HT1 HT2 HT3 hn0
        obtain ⟨k0, k1, k2, k3⟩ := KL.out _ (Below.refl W.heap.size W)
        go_region_held3 (fun w' => w'.cell? ⟨w.heap.size, 0, none⟩ = some (.int .i64 kk) ∧ w'.cell? ⟨w.heap.size, 1, none⟩ = some (.int .u64 1) ∧ w'.cell? ⟨w.heap.size, 2, none⟩ = some (.slice A1 bl c1) ∧ w'.cell? ⟨w.heap.size, 3, none⟩ = some (.slice A2 sl c2))
          (first | with_reducible exact KL.out _ HBd.out | with_reducible exact KL.out _ HBA.out | with_reducible exact KL.out _ HBB.out | fail)
          (first | (go_at_call 19; (with_reducible refine (CS.out _ (below_next HB.out HZ.out HBA.out)).mono ?_); rintro e wB ⟨rfl, hbB⟩; have HBB := Lib.hid (below_next HBA.out HBA.out.size hbB); clear hbB) | (go_at_call 29; (with_reducible refine (CN.out _).mono ?_); rintro e wA ⟨rfl, hbA⟩; have HBA := Lib.hid (below_next HBd.out HBd.out.size hbA); clear hbA) | fail)
        clear CS CN k0 k1 k2 k3
        obtain ⟨_, s0, s1, s2⟩ := HS.out.below (below_next HB.out HZ.out HBB.out) (Nat.le_refl _)
        obtain ⟨k0, k1, k2, k3⟩ := KL.out _ HBB.out
        go_wp2_with fail
        exact bodyPost_ret (v := .tuple #[.int .i64 2, .bool true]) (by simp [results, Tryd.results30, go_sem]) rfl ⟨by rw [typ_1]; rfl, (below_next HB.out HZ.out HBB.out)⟩
      · clear hsm HT1 HT2 HT3 hn0
        obtain ⟨k0, k1, k2, k3⟩ := KL.out _ (Below.refl W.heap.size W)
        go_region_held3 (fun w' => w'.cell? ⟨w.heap.size, 0, none⟩ = some (.int .i64 kk) ∧ w'.cell? ⟨w.heap.size, 1, none⟩ = some (.int .u64 2) ∧ w'.cell? ⟨w.heap.size, 2, none⟩ = some (.slice A1 bl c1) ∧ w'.cell? ⟨w.heap.size, 3, none⟩ = some (.slice A2 sl c2))
          (first | with_reducible exact KL.out _ HBd.out | with_reducible exact KL.out _ HBA.out | with_reducible exact KL.out _ HBB.out | fail)
          (first | (go_at_call 19; (with_reducible refine (CS.out _ (below_next HB.out HZ.out HBA.out)).mono ?_); rintro e wB ⟨rfl, hbB⟩; have HBB := Lib.hid (below_next HBA.out HBA.out.size hbB); clear hbB) | (go_at_call 29; (with_reducible refine (CN.out _).mono ?_); rintro e wA ⟨rfl, hbA⟩; have HBA := Lib.hid (below_next HBd.out HBd.out.size hbA); clear hbA) | fail)
        clear CS CN k0 k1 k2 k3
        obtain ⟨_, s0, s1, s2⟩ := HS.out.below (below_next HB.out HZ.out HBB.out) (Nat.le_refl _)
        obtain ⟨k0, k1, k2, k3⟩ := KL.out _ HBB.out
        go_wp2_with fail
        exact bodyPost_ret (v := .tuple #[.int .i64 4, .bool true]) (by simp [results, Tryd.results30, go_sem]) rfl ⟨by rw [typ_2]; rfl, (below_next HB.out HZ.out HBB.out)⟩
end Go.Proofs.YthknkdphofjmhaaDoor.Prim
