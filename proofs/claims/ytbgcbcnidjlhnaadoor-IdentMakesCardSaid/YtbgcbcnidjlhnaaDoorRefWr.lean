/- The contract of the reference's Write (layer 4). -/
import Derived.Test.YtbgcbcnidjlhnaaDoorZm7
import Derived.BigRegion
import Derived.Deep.RegionHeld3
import Derived.Deep.RegionWith
import Derived.Deep.CutBlock
namespace Go.Proofs.YtbgcbcnidjlhnaaDoor.Eid
open Go.RowKit Wd Cb

theorem items2t {W : World} {g lo hi : Nat} {t : TypeId} {x y : Itm} {a0 a1 a2 a3 b0 b1 b2 b3 : Value} (hx : ItemV W lo hi x (.agg #[a0, a1, a2, a3])) (hy : ItemV W lo hi y (.agg #[b0, b1, b2, b3]))
    (hk : Blk W g t #[a0, a1, a2, a3, b0, b1, b2, b3]) (hl : lo ≤ g) (hg : g < hi) : ItemsV W lo hi [x, y] (some ⟨g, 0, none⟩) := by
  obtain ⟨cs, e1, r1⟩ := hx
  obtain ⟨ds, e2, r2⟩ := hy
  obtain rfl : cs = [a0, a1, a2, a3] := by simpa using (congrArg (fun v => match v with | Value.agg c => c.toList | _ => []) e1).symm
  obtain rfl : ds = [b0, b1, b2, b3] := by simpa using (congrArg (fun v => match v with | Value.agg c => c.toList | _ => []) e2).symm
  refine ⟨[a0, a1, a2, a3, b0, b1, b2, b3], .inr ⟨g, 0, rfl, hl, hg, fun j _ => ?_⟩, ?_⟩
  · rw [Nat.zero_add]
    simpa using hk.cell j
  · exact Reps.append (l := [x]) (m := [y]) (Reps.one r1) (Reps.one r2)

/-- Behind the store of the list's head. -/
theorem out8 {w X : World} {g1 g2 r lo : Nat} {a b : Itm} {t : TypeId} (hz : Blk X g1 t #[.int .i64 0, .int .u64 0, .slice none 0 0, .slice none 0 0]) (ho : Blk X g2 t #[.int .i64 4, .int .u64 0, .slice none 0 0, .slice none 0 0])
    (hi : ItemsV X lo X.heap.size [a, b] (some ⟨r, 0, none⟩)) (h12 : g1 ≠ g2) (h1 : w.heap.size ≤ g2) (h2 : g2 < lo) (hb : Below w.heap.size w X) :
    Hid (Blk (X.setCell ⟨g2, 3, none⟩ (.slice (some ⟨r, 0, none⟩) 2 2)) g1 t #[.int .i64 0, .int .u64 0, .slice none 0 0, .slice none 0 0]) ∧ Hid (Blk (X.setCell ⟨g2, 3, none⟩ (.slice (some ⟨r, 0, none⟩) 2 2)) g2 t #[.int .i64 4, .int .u64 0, .slice none 0 0, .slice (some ⟨r, 0, none⟩) 2 2]) ∧
    Hid (ItemsV (X.setCell ⟨g2, 3, none⟩ (.slice (some ⟨r, 0, none⟩) 2 2)) lo (X.setCell ⟨g2, 3, none⟩ (.slice (some ⟨r, 0, none⟩) 2 2)).heap.size [a, b] (some ⟨r, 0, none⟩)) ∧ Hid (Below w.heap.size w (X.setCell ⟨g2, 3, none⟩ (.slice (some ⟨r, 0, none⟩) 2 2))) := by
  refine ⟨Lib.hid (hz.far (p := ⟨g2, 3, none⟩) h12 _), Lib.hid ?_, Lib.hid ?_, Lib.hid (hb.setCell (p := ⟨g2, 3, none⟩) h1 _)⟩
  · simpa using ho.set_ 3 (.slice (some ⟨r, 0, none⟩) 2 2)
  · have e : (X.setCell ⟨g2, 3, none⟩ (.slice (some ⟨r, 0, none⟩) 2 2)).heap.size = X.heap.size := by simp [World.setCell]
    rw [e]
    exact hi.set_ (p := ⟨g2, 3, none⟩) (.inl h2) _
theorem fin9 {X : World} {g1 r lo : Nat} {a b : Itm} (hi : ItemsV X lo X.heap.size [a, b] (some ⟨r, 0, none⟩)) (h : g1 < lo) (p q s u : Value) :
    ItemV (set4 X g1 p q s u) g1 (set4 X g1 p q s u).heap.size (iL a b) (.agg #[.int .i64 4, .int .u64 0, .slice none 0 0, .slice (some ⟨r, 0, none⟩) 2 2]) := by
  rw [set4_size]
  exact ItemV.mk (k := 4) (n := 0) (b := []) (l := [a, b]) (by omega) (by omega) (by intro q hq; cases hq) (Nat.le_refl _) (by simp) .nil (Nat.le_refl _) (by decide) ((hi.set4 (.inl h) p q s u).more (Nat.le_of_lt h) (Nat.le_refl _))

theorem seg_of {w : World} {B b lo hi : Nat} {vs : List Value} (h : Lst w B (some ⟨b, 0, none⟩) vs) (hlo : lo ≤ b) (hB : B ≤ hi) : Seg w lo hi (some ⟨b, 0, none⟩) vs := by
  rcases h with h | ⟨b', o', e, hb, hc⟩
  · exact .inl h
  · injection e with e
    injection e with e1 e2
    subst e1 e2
    exact .inr ⟨b, 0, rfl, hlo, by omega, hc⟩
/-- A number and a text in a new row. -/
theorem txt8 {w2 Y : World} {b cap : Nat} {s : ByteArray} {t : TypeId} (hb : Below w2.heap.size w2 Y) (hs : Seg Y w2.heap.size Y.heap.size (some ⟨b, 0, none⟩) (u8s (CbCopy.nums s))) (h1 : s.size ≤ cap) (h2 : cap ≤ maxLen) :
    ItemsV (Y.alloc (.cells #[.int .i64 0, .int .u64 1, .slice none 0 0, .slice none 0 0, .int .i64 3, .int .u64 0, .slice (some ⟨b, 0, none⟩) s.size cap, .slice none 0 0] t)) w2.heap.size
      (Y.alloc (.cells #[.int .i64 0, .int .u64 1, .slice none 0 0, .slice none 0 0, .int .i64 3, .int .u64 0, .slice (some ⟨b, 0, none⟩) s.size cap, .slice none 0 0] t)).heap.size [iN 1, .mk 3 0 (CbCopy.nums s) []] (some ⟨Y.heap.size, 0, none⟩) := by
  refine items2t (item_num _ _ _ 1 (by omega)) ?_ (Blk.new Y t _) hb.size (by simp)
  have hn := CbCopy.nums_length s
  have h := ItemV.mk (w := Y.alloc (.cells #[.int .i64 0, .int .u64 1, .slice none 0 0, .slice none 0 0, .int .i64 3, .int .u64 0, .slice (some ⟨b, 0, none⟩) s.size cap, .slice none 0 0] t)) (lo := w2.heap.size) (hi := (Y.alloc (.cells #[.int .i64 0, .int .u64 1, .slice none 0 0, .slice none 0 0, .int .i64 3, .int .u64 0, .slice (some ⟨b, 0, none⟩) s.size cap, .slice none 0 0] t)).heap.size)
    (k := 3) (n := 0) (b := CbCopy.nums s) (l := []) (A := some ⟨b, 0, none⟩) (A' := none) (c := cap) (c' := 0) (by omega) (by omega) (CbCopy.nums_bts s) (by omega) h2 ((hs.alloc (Nat.le_refl _) _).more (Nat.le_refl _) (by simp)) (Nat.le_refl _) (by simp) .nil
  rw [hn] at h
  exact h

set_option maxRecDepth 100000 in
set_option maxHeartbeats 4000000 in
theorem write04_lo (x : Nm) (hx : x.ok) (hr : right x = true) (w : World) : Calls Tryd.prog 60 #[x.val] w fun e w' => ∃ v, e = .returned v ∧ Hid (ItemV w' w.heap.size w'.heap.size (itemOf x) v) ∧ Below w.heap.size w w' := by
  have CK : Hid (∀ w', Calls Tryd.prog 32 #[x.val] w' fun e w1 => e = .returned (.int .i64 (kd x)) ∧ Below w'.heap.size w' w1) := Lib.hid (fun w' => by
    have c := kind04_any x hx w'
    rw [rk_true hr] at c
    exact c)
  have HT := Lib.hid (show itemOf x = if kd x = 0 then iL (iN 1) (iN 0) else if kd x = 1 then iL (iN 2) (iL (iN x.node) (iN x.service)) else iL (iN 1) (.mk 3 0 (CbCopy.nums (pathOf x.host x.demux)) []) from rfl)
  have HRT := Lib.hid (right_texts x hr)
  have HN := Lib.hid (And.intro hx.n0 hx.n1)
  have HS := Lib.hid (And.intro hx.s0 hx.s1)
  have CN : Hid (∀ (n : Int) (w' : World), Calls Tryd.prog 88 #[.int .u64 n] w' fun e w1 => e = .returned (.agg #[.int .i64 0, .int .u64 n, .slice none 0 0, .slice none 0 0]) ∧ Below w'.heap.size w' w1) := Lib.hid (fun n w' => (num04_any n w').mono (by
    rintro e w1 ⟨rfl, rfl⟩
    exact ⟨rfl, (Below.refl _ _).alloc (Nat.le_refl _) _⟩))
  clear hx hr
  obtain ⟨i, n, s, h, d⟩ := x
  have HB := Lib.hid ((((Below.refl w.heap.size w).alloc (Nat.le_refl _) (.cells #[.bool i, .int .u64 n, .int .u64 s, .string h, .string d] 34)).alloc (by simp) (.cells #[.int .i64 0, .int .u64 0, .slice none 0 0, .slice none 0 0] 49)).alloc (by simp; omega) (.cells #[.int .i64 4, .int .u64 0, .slice none 0 0, .slice none 0 0] 49))
  have HK := Lib.hid (((Blk.new w 34 #[.bool i, .int .u64 n, .int .u64 s, .string h, .string d]).alloc (.cells #[.int .i64 0, .int .u64 0, .slice none 0 0, .slice none 0 0] 49)).alloc (.cells #[.int .i64 4, .int .u64 0, .slice none 0 0, .slice none 0 0] 49))
  have HZ := Lib.hid ((Blk.new (w.alloc (.cells #[.bool i, .int .u64 n, .int .u64 s, .string h, .string d] 34)) 49 #[.int .i64 0, .int .u64 0, .slice none 0 0, .slice none 0 0]).alloc (.cells #[.int .i64 4, .int .u64 0, .slice none 0 0, .slice none 0 0] 49))
  have HO := Lib.hid (Blk.new ((w.alloc (.cells #[.bool i, .int .u64 n, .int .u64 s, .string h, .string d] 34)).alloc (.cells #[.int .i64 0, .int .u64 0, .slice none 0 0, .slice none 0 0] 49)) 49 #[.int .i64 4, .int .u64 0, .slice none 0 0, .slice none 0 0])
  simp only [World.size_alloc] at HZ HO
  replace HT : Hid (itemOf ⟨i, n, s, h, d⟩ = if kd ⟨i, n, s, h, d⟩ = 0 then iL (iN 1) (iN 0) else if kd ⟨i, n, s, h, d⟩ = 1 then iL (iN 2) (iL (iN n) (iN s)) else iL (iN 1) (.mk 3 0 (CbCopy.nums (pathOf h d)) [])) := HT
  replace HRT : Hid (kd ⟨i, n, s, h, d⟩ ≠ 0 → kd ⟨i, n, s, h, d⟩ ≠ 1 → h.size ≤ 1000 ∧ d.size ≤ 1000) := HRT
  generalize itemOf ⟨i, n, s, h, d⟩ = T at *
  generalize kd ⟨i, n, s, h, d⟩ = k at *
  go_enter Tryd.func60, Tryd.ntmps60
  go_wp2_with fail
  generalize (((w.alloc (.cells #[.bool i, .int .u64 n, .int .u64 s, .string h, .string d] 34)).alloc (.cells #[.int .i64 0, .int .u64 0, .slice none 0 0, .slice none 0 0] 49)).alloc (.cells #[.int .i64 4, .int .u64 0, .slice none 0 0, .slice none 0 0] 49)) = W at *
  refine (CK.out _).mono ?_
  rintro e w2 ⟨rfl, hb2⟩
  have HB2 := Lib.hid (below_next HB.out HB.out.size hb2)
  have HK2 := Lib.hid (HK.out.next hb2)
  have HZ2 := Lib.hid (HZ.out.next hb2)
  have HO2 := Lib.hid (HO.out.next hb2)
  clear hb2 HK HB HZ HO CK
  have hl2 : w.heap.size + 1 + 1 < w2.heap.size := HO2.out.lt
  by_cases k0 : k = 0
  · subst k0
    have HT2 := Lib.hid (show T = iL (iN 1) (iN 0) by rw [HT.out]; rfl)
    have o3 : ∀ a b c, (((w2.alloc a).alloc b).alloc c).cell? ⟨w.heap.size + 1 + 1, 3, none⟩ = some (.slice none 0 0) := fun a b c => by simpa using (((HO2.out.alloc a).alloc b).alloc c).cell 3
    have f3 : ∀ a b c, (((w2.alloc a).alloc b).alloc c).frozen? ⟨w.heap.size + 1 + 1, 3, none⟩ = false := fun a b c => (((HO2.out.alloc a).alloc b).alloc c).frozen 3
    go_upto_region 8 with (first | (go_at_call 88; (refine (num04_any _ _).mono ?_); rintro e wq ⟨rfl, rfl⟩) | fail)
    have hz2 : ((w2.alloc (.cells #[.int .i64 0, .int .u64 1, .slice none 0 0, .slice none 0 0] 49)).alloc (.cells #[.int .i64 0, .int .u64 0, .slice none 0 0, .slice none 0 0] 49)).heap.size = w2.heap.size + 1 + 1 := by simp
    have hkr := Blk.new ((w2.alloc (.cells #[.int .i64 0, .int .u64 1, .slice none 0 0, .slice none 0 0] 49)).alloc (.cells #[.int .i64 0, .int .u64 0, .slice none 0 0, .slice none 0 0] 49)) 49 #[.int .i64 0, .int .u64 1, .slice none 0 0, .slice none 0 0, .int .i64 0, .int .u64 0, .slice none 0 0, .slice none 0 0]
    rw [hz2] at hkr
    have HIX := Lib.hid (items2t (lo := w2.heap.size) (item_num (((w2.alloc (.cells #[.int .i64 0, .int .u64 1, .slice none 0 0, .slice none 0 0] 49)).alloc (.cells #[.int .i64 0, .int .u64 0, .slice none 0 0, .slice none 0 0] 49)).alloc (.cells #[.int .i64 0, .int .u64 1, .slice none 0 0, .slice none 0 0, .int .i64 0, .int .u64 0, .slice none 0 0, .slice none 0 0] 49)) w2.heap.size (((w2.alloc (.cells #[.int .i64 0, .int .u64 1, .slice none 0 0, .slice none 0 0] 49)).alloc (.cells #[.int .i64 0, .int .u64 0, .slice none 0 0, .slice none 0 0] 49)).alloc (.cells #[.int .i64 0, .int .u64 1, .slice none 0 0, .slice none 0 0, .int .i64 0, .int .u64 0, .slice none 0 0, .slice none 0 0] 49)).heap.size 1 (by omega)) (item_num _ _ _ 0 (by omega)) hkr (by omega) (by simp))
    have HZX := Lib.hid (((HZ2.out.alloc (.cells #[.int .i64 0, .int .u64 1, .slice none 0 0, .slice none 0 0] 49)).alloc (.cells #[.int .i64 0, .int .u64 0, .slice none 0 0, .slice none 0 0] 49)).alloc (.cells #[.int .i64 0, .int .u64 1, .slice none 0 0, .slice none 0 0, .int .i64 0, .int .u64 0, .slice none 0 0, .slice none 0 0] 49))
    have HOX := Lib.hid (((HO2.out.alloc (.cells #[.int .i64 0, .int .u64 1, .slice none 0 0, .slice none 0 0] 49)).alloc (.cells #[.int .i64 0, .int .u64 0, .slice none 0 0, .slice none 0 0] 49)).alloc (.cells #[.int .i64 0, .int .u64 1, .slice none 0 0, .slice none 0 0, .int .i64 0, .int .u64 0, .slice none 0 0, .slice none 0 0] 49))
    have HBX := Lib.hid (((HB2.out.alloc HB2.out.size (.cells #[.int .i64 0, .int .u64 1, .slice none 0 0, .slice none 0 0] 49)).alloc (by have := HB2.out.size; simp; omega) (.cells #[.int .i64 0, .int .u64 0, .slice none 0 0, .slice none 0 0] 49)).alloc (by have := HB2.out.size; simp; omega) (.cells #[.int .i64 0, .int .u64 1, .slice none 0 0, .slice none 0 0, .int .i64 0, .int .u64 0, .slice none 0 0, .slice none 0 0] 49))
    clear hkr hz2 o3 f3
    obtain ⟨HZ8, HO8, HI8, HB8⟩ := out8 (w := w) HZX.out HOX.out HIX.out (by omega) (by omega) hl2 HBX.out
    clear HZX HOX HIX HBX
    generalize (((w2.alloc (.cells #[.int .i64 0, .int .u64 1, .slice none 0 0, .slice none 0 0] 49)).alloc (.cells #[.int .i64 0, .int .u64 0, .slice none 0 0, .slice none 0 0] 49)).alloc (.cells #[.int .i64 0, .int .u64 1, .slice none 0 0, .slice none 0 0, .int .i64 0, .int .u64 0, .slice none 0 0, .slice none 0 0] 49)).setCell ⟨w.heap.size + 1 + 1, 3, none⟩ (.slice (some ⟨w2.heap.size + 1 + 1, 0, none⟩) 2 2) = W8 at *
    obtain ⟨o0, o1, o2, o3⟩ := cell4 HO8.out
    obtain ⟨z0, z1, z2, z3⟩ := cell4 HZ8.out
    obtain ⟨f0, f1, f2, f3⟩ := froz4 HZ8.out
    go_wp2_with fail
    have HZ9 := Lib.hid (set4_blk HZ8.out (.int .i64 4) (.int .u64 0) (.slice none 0 0) (.slice (some ⟨w2.heap.size + 1 + 1, 0, none⟩) 2 2))
    have HB9 := Lib.hid (set4_below HB8.out (Nat.le_succ _) (.int .i64 4) (.int .u64 0) (.slice none 0 0) (.slice (some ⟨w2.heap.size + 1 + 1, 0, none⟩) 2 2))
    have HI9 := Lib.hid (fin9 (g1 := w.heap.size + 1) HI8.out (by omega) (.int .i64 4) (.int .u64 0) (.slice none 0 0) (.slice (some ⟨w2.heap.size + 1 + 1, 0, none⟩) 2 2))
    clear o0 o1 o2 o3 z0 z1 z2 z3 f0 f1 f2 f3
    generalize hW9 : set4 W8 (w.heap.size + 1) (.int .i64 4) (.int .u64 0) (.slice none 0 0) (.slice (some ⟨w2.heap.size + 1 + 1, 0, none⟩) 2 2) = W9 at HZ9 HB9 HI9
    unfold set4 at hW9
    rw [hW9]
    obtain ⟨z0, z1, z2, z3⟩ := cell4 HZ9.out
    refine bodyPost_ret (v := .agg #[.int .i64 4, .int .u64 0, .slice none 0 0, .slice (some ⟨w2.heap.size + 1 + 1, 0, none⟩) 2 2]) (by simp [results, Tryd.results60, go_sem, *]) rfl ⟨_, rfl, Lib.hid (by rw [HT2.out]; exact HI9.out.more (Nat.le_succ _) (Nat.le_refl _)), HB9.out⟩
  · have d0 : (k == 0) = false := by simpa using k0
    by_cases k1 : k = 1
    · have HT2 := Lib.hid (show T = iL (iN 2) (iL (iN n) (iN s)) by rw [HT.out, if_neg k0, if_pos k1])
      subst k1
      clear HT HRT
      have HBd : Hid (Below (w.heap.size + 1 + 1) w2 w2.drew) := Lib.hid (Below.refl _ w2).drew
      have KC := Lib.hid (fun (W' : World) (hW : Below (w.heap.size + 1 + 1) w2 W') => show W'.cell? ⟨w.heap.size, 1, none⟩ = some (.int .u64 n) ∧ W'.cell? ⟨w.heap.size, 2, none⟩ = some (.int .u64 s) from by
        have hk := HK2.out.below hW (by omega)
        exact ⟨by simpa using hk.cell 1, by simpa using hk.cell 2⟩)
      have KO := Lib.hid (fun (W' : World) (hW : Below w2.heap.size w2 W') => show (∀ a b, ((W'.alloc a).alloc b).cell? ⟨w.heap.size + 1 + 1, 3, none⟩ = some (.slice none 0 0)) ∧ (∀ a b, ((W'.alloc a).alloc b).frozen? ⟨w.heap.size + 1 + 1, 3, none⟩ = false) from by
        have hk := HO2.out.next hW
        exact ⟨fun a b => by simpa using ((hk.alloc a).alloc b).cell 3, fun a b => ((hk.alloc a).alloc b).frozen 3⟩)
      have HLT := Lib.hid (Nat.le_of_lt hl2)
      have HCd := Lib.hid (KC.out w2 (Below.refl _ _))
      obtain ⟨c1, c2⟩ := HCd.out
      go_wp2_with fail
      go_region_held3 (fun w' => w'.cell? ⟨w.heap.size, 1, none⟩ = some (.int .u64 n) ∧ w'.cell? ⟨w.heap.size, 2, none⟩ = some (.int .u64 s))
        (first | with_reducible exact KC.out _ HBd.out | with_reducible exact KC.out _ HB3.out | with_reducible exact KC.out _ HB4.out | with_reducible exact KC.out _ HB5.out | with_reducible exact KC.out _ (HB5.out.alloc HZ5.out _) | with_reducible exact KC.out _ ((HB5.out.alloc HZ5.out _).alloc (by simp; have := HZ5.out; omega) _) | with_reducible exact KC.out _ (((HB5.out.alloc HZ5.out _).alloc (by simp; have := HZ5.out; omega) _).setCell (p := ⟨w.heap.size + 1 + 1, 3, none⟩) (Nat.le_refl _) _) | fail)
        (first | (go_at_call 88; (with_reducible refine (CN.out s w4).mono ?_); rintro e w5 ⟨rfl, hb5⟩; have HY5 := Lib.hid (below_next HY4.out HY4.out.size hb5); have HB5 := Lib.hid (HY5.out.mono HLT.out); have HZ5 := Lib.hid (Nat.le_trans HLT.out HY5.out.size); obtain ⟨o3, f3⟩ := KO.out _ HY5.out; clear hb5) | (go_at_call 88; (with_reducible refine (CN.out n w3).mono ?_); rintro e w4 ⟨rfl, hb4⟩; have HY4 := Lib.hid (below_next HY3.out HY3.out.size hb4); have HB4 := Lib.hid (HY4.out.mono HLT.out); clear hb4) | (go_at_call 88; (with_reducible refine (CN.out 2 _).mono ?_); rintro e w3 ⟨rfl, hb3⟩; have HY3 := Lib.hid (show Below w2.heap.size w2 w3 from ((Below.refl _ w2).drew).trans hb3); have HB3 := Lib.hid (HY3.out.mono HLT.out); clear hb3) | fail)
      have hw5 : w2.heap.size ≤ w5.heap.size := HY5.out.size
      have hz1 : (w5.alloc (.cells #[.int .i64 0, .int .u64 n, .slice none 0 0, .slice none 0 0, .int .i64 0, .int .u64 s, .slice none 0 0, .slice none 0 0] 49)).heap.size = w5.heap.size + 1 := by simp
      have hz2 : ((w5.alloc (.cells #[.int .i64 0, .int .u64 n, .slice none 0 0, .slice none 0 0, .int .i64 0, .int .u64 s, .slice none 0 0, .slice none 0 0] 49)).alloc (.cells #[.int .i64 0, .int .u64 2, .slice none 0 0, .slice none 0 0, .int .i64 4, .int .u64 0, .slice none 0 0, .slice (some ⟨w5.heap.size, 0, none⟩) 2 2] 49)).heap.size = w5.heap.size + 1 + 1 := by simp
      have hk1 := (Blk.new w5 49 #[.int .i64 0, .int .u64 n, .slice none 0 0, .slice none 0 0, .int .i64 0, .int .u64 s, .slice none 0 0, .slice none 0 0]).alloc (.cells #[.int .i64 0, .int .u64 2, .slice none 0 0, .slice none 0 0, .int .i64 4, .int .u64 0, .slice none 0 0, .slice (some ⟨w5.heap.size, 0, none⟩) 2 2] 49)
      have hk2 := Blk.new (w5.alloc (.cells #[.int .i64 0, .int .u64 n, .slice none 0 0, .slice none 0 0, .int .i64 0, .int .u64 s, .slice none 0 0, .slice none 0 0] 49)) 49 #[.int .i64 0, .int .u64 2, .slice none 0 0, .slice none 0 0, .int .i64 4, .int .u64 0, .slice none 0 0, .slice (some ⟨w5.heap.size, 0, none⟩) 2 2]
      rw [hz1] at hk2
      have hi1 := items2t (lo := w2.heap.size) (hi := ((w5.alloc (.cells #[.int .i64 0, .int .u64 n, .slice none 0 0, .slice none 0 0, .int .i64 0, .int .u64 s, .slice none 0 0, .slice none 0 0] 49)).alloc (.cells #[.int .i64 0, .int .u64 2, .slice none 0 0, .slice none 0 0, .int .i64 4, .int .u64 0, .slice none 0 0, .slice (some ⟨w5.heap.size, 0, none⟩) 2 2] 49)).heap.size) (item_num _ _ _ n HN.out) (item_num _ _ _ s HS.out) hk1 hw5 (by omega)
      have HIX := Lib.hid (items2t (lo := w2.heap.size) (hi := ((w5.alloc (.cells #[.int .i64 0, .int .u64 n, .slice none 0 0, .slice none 0 0, .int .i64 0, .int .u64 s, .slice none 0 0, .slice none 0 0] 49)).alloc (.cells #[.int .i64 0, .int .u64 2, .slice none 0 0, .slice none 0 0, .int .i64 4, .int .u64 0, .slice none 0 0, .slice (some ⟨w5.heap.size, 0, none⟩) 2 2] 49)).heap.size) (item_num ((w5.alloc (.cells #[.int .i64 0, .int .u64 n, .slice none 0 0, .slice none 0 0, .int .i64 0, .int .u64 s, .slice none 0 0, .slice none 0 0] 49)).alloc (.cells #[.int .i64 0, .int .u64 2, .slice none 0 0, .slice none 0 0, .int .i64 4, .int .u64 0, .slice none 0 0, .slice (some ⟨w5.heap.size, 0, none⟩) 2 2] 49)) _ _ 2 (by omega)) (ItemV.mk (k := 4) (n := 0) (b := []) (l := [iN n, iN s]) (by omega) (by omega) (by intro q hq; cases hq) (Nat.le_refl _) (by simp) .nil (Nat.le_refl _) (show 2 ≤ maxLen by decide) hi1) hk2 (by omega) (by omega))
      have HZX := Lib.hid (((HZ2.out.next HY5.out).alloc (.cells #[.int .i64 0, .int .u64 n, .slice none 0 0, .slice none 0 0, .int .i64 0, .int .u64 s, .slice none 0 0, .slice none 0 0] 49)).alloc (.cells #[.int .i64 0, .int .u64 2, .slice none 0 0, .slice none 0 0, .int .i64 4, .int .u64 0, .slice none 0 0, .slice (some ⟨w5.heap.size, 0, none⟩) 2 2] 49))
      have HOX := Lib.hid (((HO2.out.next HY5.out).alloc (.cells #[.int .i64 0, .int .u64 n, .slice none 0 0, .slice none 0 0, .int .i64 0, .int .u64 s, .slice none 0 0, .slice none 0 0] 49)).alloc (.cells #[.int .i64 0, .int .u64 2, .slice none 0 0, .slice none 0 0, .int .i64 4, .int .u64 0, .slice none 0 0, .slice (some ⟨w5.heap.size, 0, none⟩) 2 2] 49))
      have HBX := Lib.hid (((below_next HB2.out HB2.out.size HY5.out).alloc (by have := HB2.out.size; omega) (.cells #[.int .i64 0, .int .u64 n, .slice none 0 0, .slice none 0 0, .int .i64 0, .int .u64 s, .slice none 0 0, .slice none 0 0] 49)).alloc (by have := HB2.out.size; omega) (.cells #[.int .i64 0, .int .u64 2, .slice none 0 0, .slice none 0 0, .int .i64 4, .int .u64 0, .slice none 0 0, .slice (some ⟨w5.heap.size, 0, none⟩) 2 2] 49))
      clear hk1 hk2 hz1 hz2 hi1 o3 f3
      go_upto_region 8 with (fail)
      obtain ⟨HZ8, HO8, HI8, HB8⟩ := out8 (w := w) HZX.out HOX.out HIX.out (by omega) (by omega) hl2 HBX.out
      clear HZX HOX HIX HBX
      generalize ((w5.alloc (.cells #[.int .i64 0, .int .u64 n, .slice none 0 0, .slice none 0 0, .int .i64 0, .int .u64 s, .slice none 0 0, .slice none 0 0] 49)).alloc (.cells #[.int .i64 0, .int .u64 2, .slice none 0 0, .slice none 0 0, .int .i64 4, .int .u64 0, .slice none 0 0, .slice (some ⟨w5.heap.size, 0, none⟩) 2 2] 49)).setCell ⟨w.heap.size + 1 + 1, 3, none⟩ (.slice (some ⟨w5.heap.size + 1, 0, none⟩) 2 2) = W8 at *
      obtain ⟨o0, o1, o2, o3⟩ := cell4 HO8.out
      obtain ⟨z0, z1, z2, z3⟩ := cell4 HZ8.out
      obtain ⟨f0, f1, f2, f3⟩ := froz4 HZ8.out
      go_wp2_with fail
      have HZ9 := Lib.hid (set4_blk HZ8.out (.int .i64 4) (.int .u64 0) (.slice none 0 0) (.slice (some ⟨w5.heap.size + 1, 0, none⟩) 2 2))
      have HB9 := Lib.hid (set4_below HB8.out (Nat.le_succ _) (.int .i64 4) (.int .u64 0) (.slice none 0 0) (.slice (some ⟨w5.heap.size + 1, 0, none⟩) 2 2))
      have HI9 := Lib.hid (fin9 (g1 := w.heap.size + 1) HI8.out (by omega) (.int .i64 4) (.int .u64 0) (.slice none 0 0) (.slice (some ⟨w5.heap.size + 1, 0, none⟩) 2 2))
      clear o0 o1 o2 o3 z0 z1 z2 z3 f0 f1 f2 f3
      generalize hW9 : set4 W8 (w.heap.size + 1) (.int .i64 4) (.int .u64 0) (.slice none 0 0) (.slice (some ⟨w5.heap.size + 1, 0, none⟩) 2 2) = W9 at HZ9 HB9 HI9
      unfold set4 at hW9
      rw [hW9]
      obtain ⟨z0, z1, z2, z3⟩ := cell4 HZ9.out
      refine bodyPost_ret (v := .agg #[.int .i64 4, .int .u64 0, .slice none 0 0, .slice (some ⟨w5.heap.size + 1, 0, none⟩) 2 2]) (by simp [results, Tryd.results60, go_sem, *]) rfl ⟨_, rfl, Lib.hid (by rw [HT2.out]; exact HI9.out.more (Nat.le_succ _) (Nat.le_refl _)), HB9.out⟩
    · have d1 : (k == 1) = false := by simpa using k1
      have HT2 := Lib.hid (show T = iL (iN 1) (.mk 3 0 (CbCopy.nums (pathOf h d)) []) by rw [HT.out, if_neg k0, if_neg k1])
      obtain ⟨y1, y2⟩ := HRT.out k0 k1
      have q1 : ¬ 9223372036854775807 < 2 + h.size := by omega
      have q2 : ¬ 9223372036854775807 < 2 + h.size + 1 := by omega
      have q3 : ¬ 9223372036854775807 < 2 + h.size + 1 + d.size := by omega
      have HPS := Lib.hid (path_size h d)
      have hP : ((⟨#[47, 47]⟩ : ByteArray) ++ h) ++ (⟨#[47]⟩ : ByteArray) ++ d = pathOf h d := rfl
      have hcv : ∀ W, (convert 9 27 (.string (pathOf h d))).run Tryd.prog W = _ := fun W => Lib.run_convert_string_bytes (P := Tryd.prog) W 9 27 5 (pathOf h d) Tryd.underlying9 Tryd.underlying27 Tryd.underlying5
      have hps : (pathOf h d).size ≤ 3000 := by rw [HPS.out]; omega
      have HPL := Lib.hid hps
      generalize pathOf h d = P at *
      clear HPS HRT HT hps y1 y2
      obtain ⟨c0, c1, c2, c3, c4⟩ := cells5 HK2.out
      have c3a : ∀ a, (w2.alloc a).cell? ⟨w.heap.size, 3, none⟩ = some (.string h) := fun a => by simpa using (HK2.out.alloc a).cell 3
      have c4a : ∀ a, (w2.alloc a).cell? ⟨w.heap.size, 4, none⟩ = some (.string d) := fun a => by simpa using (HK2.out.alloc a).cell 4
      clear c0 c1 c2
      have KO := Lib.hid (fun (W' : World) (hW : Below w2.heap.size w2 W') => show (∀ a, (W'.alloc a).cell? ⟨w.heap.size + 1 + 1, 3, none⟩ = some (.slice none 0 0)) ∧ (∀ a, (W'.alloc a).frozen? ⟨w.heap.size + 1 + 1, 3, none⟩ = false) from by
        have hk := HO2.out.next hW
        exact ⟨fun a => by simpa using (hk.alloc a).cell 3, fun a => (hk.alloc a).frozen 3⟩)
      have HYA := Lib.hid (fun b => CbCopy.below_conv (((Below.refl w2.heap.size w2).alloc (Nat.le_refl _) b).drew) (by show w2.heap.size ≤ (w2.alloc b).heap.size; simp) 5 P)
      have HYB := Lib.hid (fun b => (CbCopy.below_conv ((Below.refl w2.heap.size w2).drew) (Nat.le_refl _) 5 P).alloc (by rw [Lib.bytesWorld_size]; exact Nat.le_succ _) b)
      have o3A := fun b => (KO.out _ (HYA.out b)).1
      have f3A := fun b => (KO.out _ (HYA.out b)).2
      have o3B := fun b => (KO.out _ (HYB.out b)).1
      have f3B := fun b => (KO.out _ (HYB.out b)).2
      go_wp2_with fail
      go_region_with (first | (go_at_call 88; (refine (num04_any _ _).mono ?_); rintro e wq ⟨rfl, rfl⟩) | fail)
      all_goals first
        | focus
          have HSA := Lib.hid (seg_of (lo := w2.heap.size) (CbCopy.conv_lst (w2.alloc (.cells #[.int .i64 0, .int .u64 1, .slice none 0 0, .slice none 0 0] 49)).drew 5 P) (by show w2.heap.size ≤ (w2.alloc (.cells #[.int .i64 0, .int .u64 1, .slice none 0 0, .slice none 0 0] 49)).heap.size; simp) (show (w2.alloc (.cells #[.int .i64 0, .int .u64 1, .slice none 0 0, .slice none 0 0] 49)).drew.heap.size + 1 ≤ (Lib.bytesWorld (w2.alloc (.cells #[.int .i64 0, .int .u64 1, .slice none 0 0, .slice none 0 0] 49)).drew 5 P).heap.size by rw [Lib.bytesWorld_size]; exact Nat.le_refl _))
          have HYa := Lib.hid (HYA.out (.cells #[.int .i64 0, .int .u64 1, .slice none 0 0, .slice none 0 0] 49))
          have HC1 := Lib.hid (grownCap_ge (w2.alloc (.cells #[.int .i64 0, .int .u64 1, .slice none 0 0, .slice none 0 0] 49)).drew P.size 0 5)
          have HC2 := Lib.hid (grownCap_le_maxLen (w2.alloc (.cells #[.int .i64 0, .int .u64 1, .slice none 0 0, .slice none 0 0] 49)).drew P.size 0 5 (by have := HPL.out; unfold maxLen; omega))
          rw [show (w2.alloc (.cells #[.int .i64 0, .int .u64 1, .slice none 0 0, .slice none 0 0] 49)).drew.heap.size = w2.heap.size + 1 from World.size_alloc w2 _] at HSA
          clear o3A f3A o3B f3B c3 c4 c3a c4a HYA HYB
          generalize Lib.bytesWorld (w2.alloc (.cells #[.int .i64 0, .int .u64 1, .slice none 0 0, .slice none 0 0] 49)).drew 5 P = wa at *
          generalize grownCap (w2.alloc (.cells #[.int .i64 0, .int .u64 1, .slice none 0 0, .slice none 0 0] 49)).drew P.size 0 5 = cap at *
          have HIX := Lib.hid (txt8 (t := 49) HYa.out HSA.out HC1.out HC2.out)
          have HZX := Lib.hid ((HZ2.out.next HYa.out).alloc (.cells #[.int .i64 0, .int .u64 1, .slice none 0 0, .slice none 0 0, .int .i64 3, .int .u64 0, .slice (some ⟨w2.heap.size + 1, 0, none⟩) P.size cap, .slice none 0 0] 49))
          have HOX := Lib.hid ((HO2.out.next HYa.out).alloc (.cells #[.int .i64 0, .int .u64 1, .slice none 0 0, .slice none 0 0, .int .i64 3, .int .u64 0, .slice (some ⟨w2.heap.size + 1, 0, none⟩) P.size cap, .slice none 0 0] 49))
          have HBX := Lib.hid ((below_next HB2.out HB2.out.size HYa.out).alloc (by have := HB2.out.size; have := HYa.out.size; omega) (.cells #[.int .i64 0, .int .u64 1, .slice none 0 0, .slice none 0 0, .int .i64 3, .int .u64 0, .slice (some ⟨w2.heap.size + 1, 0, none⟩) P.size cap, .slice none 0 0] 49))
          go_upto_region 8 with (fail)
          obtain ⟨HZ8, HO8, HI8, HB8⟩ := out8 (w := w) HZX.out HOX.out HIX.out (by omega) (by omega) hl2 HBX.out
          clear HZX HOX HIX HBX
          generalize (wa.alloc (.cells #[.int .i64 0, .int .u64 1, .slice none 0 0, .slice none 0 0, .int .i64 3, .int .u64 0, .slice (some ⟨w2.heap.size + 1, 0, none⟩) P.size cap, .slice none 0 0] 49)).setCell ⟨w.heap.size + 1 + 1, 3, none⟩ (.slice (some ⟨wa.heap.size, 0, none⟩) 2 2) = W8 at *
          obtain ⟨o0, o1, o2, o3⟩ := cell4 HO8.out
          obtain ⟨z0, z1, z2, z3⟩ := cell4 HZ8.out
          obtain ⟨f0, f1, f2, f3⟩ := froz4 HZ8.out
          go_wp2_with fail
          have HZ9 := Lib.hid (set4_blk HZ8.out (.int .i64 4) (.int .u64 0) (.slice none 0 0) (.slice (some ⟨wa.heap.size, 0, none⟩) 2 2))
          have HB9 := Lib.hid (set4_below HB8.out (Nat.le_succ _) (.int .i64 4) (.int .u64 0) (.slice none 0 0) (.slice (some ⟨wa.heap.size, 0, none⟩) 2 2))
          have HI9 := Lib.hid (fin9 (g1 := w.heap.size + 1) HI8.out (by omega) (.int .i64 4) (.int .u64 0) (.slice none 0 0) (.slice (some ⟨wa.heap.size, 0, none⟩) 2 2))
          clear o0 o1 o2 o3 z0 z1 z2 z3 f0 f1 f2 f3
          generalize hW9 : set4 W8 (w.heap.size + 1) (.int .i64 4) (.int .u64 0) (.slice none 0 0) (.slice (some ⟨wa.heap.size, 0, none⟩) 2 2) = W9 at HZ9 HB9 HI9
          unfold set4 at hW9
          rw [hW9]
          obtain ⟨z0, z1, z2, z3⟩ := cell4 HZ9.out
          refine bodyPost_ret (v := .agg #[.int .i64 4, .int .u64 0, .slice none 0 0, .slice (some ⟨wa.heap.size, 0, none⟩) 2 2]) (by simp [results, Tryd.results60, go_sem, *]) rfl ⟨_, rfl, Lib.hid (by rw [HT2.out]; exact HI9.out.more (Nat.le_succ _) (Nat.le_refl _)), HB9.out⟩
        | focus
          have HSB := Lib.hid (seg_of (lo := w2.heap.size) (CbCopy.conv_lst w2.drew 5 P) (show w2.heap.size ≤ w2.drew.heap.size from Nat.le_refl _) (show w2.drew.heap.size + 1 ≤ (Lib.bytesWorld w2.drew 5 P).heap.size by rw [Lib.bytesWorld_size]; exact Nat.le_refl _))
          have HYa := Lib.hid (HYB.out (.cells #[.int .i64 0, .int .u64 1, .slice none 0 0, .slice none 0 0] 49))
          have HC1 := Lib.hid (grownCap_ge w2.drew P.size 0 5)
          have HC2 := Lib.hid (grownCap_le_maxLen w2.drew P.size 0 5 (by have := HPL.out; unfold maxLen; omega))
          rw [show w2.drew.heap.size = w2.heap.size from rfl] at HSB
          clear o3A f3A o3B f3B c3 c4 c3a c4a HYA HYB
          generalize Lib.bytesWorld w2.drew 5 P = wb at *
          generalize grownCap w2.drew P.size 0 5 = cap at *
          have HIX := Lib.hid (txt8 (t := 49) HYa.out ((HSB.out.alloc (Nat.le_refl _) (.cells #[.int .i64 0, .int .u64 1, .slice none 0 0, .slice none 0 0] 49)).more (Nat.le_refl _) (by simp)) HC1.out HC2.out)
          rw [World.size_alloc wb] at HIX
          have HZX := Lib.hid ((HZ2.out.next HYa.out).alloc (.cells #[.int .i64 0, .int .u64 1, .slice none 0 0, .slice none 0 0, .int .i64 3, .int .u64 0, .slice (some ⟨w2.heap.size, 0, none⟩) P.size cap, .slice none 0 0] 49))
          have HOX := Lib.hid ((HO2.out.next HYa.out).alloc (.cells #[.int .i64 0, .int .u64 1, .slice none 0 0, .slice none 0 0, .int .i64 3, .int .u64 0, .slice (some ⟨w2.heap.size, 0, none⟩) P.size cap, .slice none 0 0] 49))
          have HBX := Lib.hid ((below_next HB2.out HB2.out.size HYa.out).alloc (by have := HB2.out.size; have := HYa.out.size; omega) (.cells #[.int .i64 0, .int .u64 1, .slice none 0 0, .slice none 0 0, .int .i64 3, .int .u64 0, .slice (some ⟨w2.heap.size, 0, none⟩) P.size cap, .slice none 0 0] 49))
          go_upto_region 8 with (fail)
          obtain ⟨HZ8, HO8, HI8, HB8⟩ := out8 (w := w) HZX.out HOX.out HIX.out (by omega) (by omega) hl2 HBX.out
          clear HZX HOX HIX HBX
          generalize ((wb.alloc (.cells #[.int .i64 0, .int .u64 1, .slice none 0 0, .slice none 0 0] 49)).alloc (.cells #[.int .i64 0, .int .u64 1, .slice none 0 0, .slice none 0 0, .int .i64 3, .int .u64 0, .slice (some ⟨w2.heap.size, 0, none⟩) P.size cap, .slice none 0 0] 49)).setCell ⟨w.heap.size + 1 + 1, 3, none⟩ (.slice (some ⟨wb.heap.size + 1, 0, none⟩) 2 2) = W8 at *
          obtain ⟨o0, o1, o2, o3⟩ := cell4 HO8.out
          obtain ⟨z0, z1, z2, z3⟩ := cell4 HZ8.out
          obtain ⟨f0, f1, f2, f3⟩ := froz4 HZ8.out
          go_wp2_with fail
          have HZ9 := Lib.hid (set4_blk HZ8.out (.int .i64 4) (.int .u64 0) (.slice none 0 0) (.slice (some ⟨wb.heap.size + 1, 0, none⟩) 2 2))
          have HB9 := Lib.hid (set4_below HB8.out (Nat.le_succ _) (.int .i64 4) (.int .u64 0) (.slice none 0 0) (.slice (some ⟨wb.heap.size + 1, 0, none⟩) 2 2))
          have HI9 := Lib.hid (fin9 (g1 := w.heap.size + 1) HI8.out (by omega) (.int .i64 4) (.int .u64 0) (.slice none 0 0) (.slice (some ⟨wb.heap.size + 1, 0, none⟩) 2 2))
          clear o0 o1 o2 o3 z0 z1 z2 z3 f0 f1 f2 f3
          generalize hW9 : set4 W8 (w.heap.size + 1) (.int .i64 4) (.int .u64 0) (.slice none 0 0) (.slice (some ⟨wb.heap.size + 1, 0, none⟩) 2 2) = W9 at HZ9 HB9 HI9
          unfold set4 at hW9
          rw [hW9]
          obtain ⟨z0, z1, z2, z3⟩ := cell4 HZ9.out
          refine bodyPost_ret (v := .agg #[.int .i64 4, .int .u64 0, .slice none 0 0, .slice (some ⟨wb.heap.size + 1, 0, none⟩) 2 2]) (by simp [results, Tryd.results60, go_sem, *]) rfl ⟨_, rfl, Lib.hid (by rw [HT2.out]; exact HI9.out.more (Nat.le_succ _) (Nat.le_refl _)), HB9.out⟩
        | fail
theorem write04_any (x : Nm) (hx : x.ok) (hr : right x = true) (w : World) : Calls Tryd.prog 60 #[x.val] w fun e w' => ∃ v, e = .returned v ∧ Hid (ItemV w' 0 w'.heap.size (itemOf x) v) ∧ Below w.heap.size w w' :=
  (write04_lo x hx hr w).mono fun _ _ ⟨v, h1, h2, h3⟩ => ⟨v, h1, Lib.hid (h2.out.more (Nat.zero_le _) (Nat.le_refl _)), h3⟩
end Go.Proofs.YtbgcbcnidjlhnaaDoor.Eid
