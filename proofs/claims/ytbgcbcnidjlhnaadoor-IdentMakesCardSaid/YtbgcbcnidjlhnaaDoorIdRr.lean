/- The contracts of the reference's Write, Text, Next (layer 5). -/
import Derived.Test.YtbgcbcnidjlhnaaDoorIdR
import Derived.Test.YtbgcbcnidjlhnaaDoorZm6
import Derived.Test.YtbgcbcnidjlhnaaDoorZm7
import Derived.Test.YtbgcbcnidjlhnaaDoorRefWr
import Derived.Test.YtbgcbcnidjlhnaaDoorEidTexts
import Derived.Deep.RegionHeld3
namespace Go.Proofs.YtbgcbcnidjlhnaaDoor.Eid
open Go.RowKit Wd Cb

theorem list2r {W : World} {g lo hi : Nat} {t : TypeId} {x y : Itm} {a0 a1 a2 a3 b0 b1 b2 b3 : Value} (hx : ItemV W lo hi x (.agg #[a0, a1, a2, a3])) (hy : ItemV W lo hi y (.agg #[b0, b1, b2, b3]))
    (hk : Blk W g t #[a0, a1, a2, a3, b0, b1, b2, b3]) (hl : lo ≤ g) (hg : g < hi) : ItemV W lo hi (iL x y) (.agg #[.int .i64 4, .int .u64 0, .slice none 0 0, .slice (some ⟨g, 0, none⟩) 2 2]) :=
  ItemV.mk (k := 4) (b := []) (l := [x, y]) (by omega) (by omega) (by intro q hq; cases hq) (Nat.le_refl _) (by simp) .nil (Nat.le_refl _) (by decide) (items2t hx hy hk hl hg)

set_option maxRecDepth 100000 in
set_option maxHeartbeats 4000000 in
theorem write05_any (x : Id) (hx : x.ok) (hr : iright x = true) (w : World) : Calls Tryd.prog 27 #[x.val] w fun e w' => ∃ v, e = .returned v ∧ Hid (ItemV w' w.heap.size w'.heap.size (iitem x) v) ∧ Below w.heap.size w w' := by
  have CW := Lib.hid (fun w' => write04_lo x.src hx.s (by unfold iright at hr; simp at hr; exact hr.1) w')
  have HT := Lib.hid (show iitem x = iL (itemOf x.src) (iL (iN x.time) (iN x.seq)) from rfl)
  have HX := Lib.hid (And.intro (And.intro hx.t0 hx.t1) (And.intro hx.q0 hx.q1))
  clear hx hr
  generalize iitem x = T at *
  generalize itemOf x.src = S at *
  obtain ⟨⟨i, n, s, h, d⟩, t, q⟩ := x
  have HB := Lib.hid (((((Below.refl w.heap.size w).alloc (Nat.le_refl _) (.cells #[.bool i, .int .u64 n, .int .u64 s, .string h, .string d, .int .u64 t, .int .u64 q] 36)).alloc (by simp) (.cells #[.int .i64 0, .int .u64 0, .slice none 0 0, .slice none 0 0] 49)).alloc (by simp; omega) (.cells #[.int .i64 0, .int .u64 t, .slice none 0 0, .slice none 0 0, .int .i64 0, .int .u64 q, .slice none 0 0, .slice none 0 0] 49)).alloc (by simp; omega) (.cells #[.int .i64 4, .int .u64 0, .slice none 0 0, .slice (some ⟨w.heap.size + 1 + 1, 0, none⟩) 2 2] 49))
  have k0 := (((Blk.new w 36 #[.bool i, .int .u64 n, .int .u64 s, .string h, .string d, .int .u64 t, .int .u64 q]).alloc (.cells #[.int .i64 0, .int .u64 0, .slice none 0 0, .slice none 0 0] 49)).alloc (.cells #[.int .i64 0, .int .u64 t, .slice none 0 0, .slice none 0 0, .int .i64 0, .int .u64 q, .slice none 0 0, .slice none 0 0] 49)).alloc (.cells #[.int .i64 4, .int .u64 0, .slice none 0 0, .slice (some ⟨w.heap.size + 1 + 1, 0, none⟩) 2 2] 49)
  have k1 := ((Blk.new (w.alloc (.cells #[.bool i, .int .u64 n, .int .u64 s, .string h, .string d, .int .u64 t, .int .u64 q] 36)) 49 #[.int .i64 0, .int .u64 0, .slice none 0 0, .slice none 0 0]).alloc (.cells #[.int .i64 0, .int .u64 t, .slice none 0 0, .slice none 0 0, .int .i64 0, .int .u64 q, .slice none 0 0, .slice none 0 0] 49)).alloc (.cells #[.int .i64 4, .int .u64 0, .slice none 0 0, .slice (some ⟨w.heap.size + 1 + 1, 0, none⟩) 2 2] 49)
  have k2 := (Blk.new ((w.alloc (.cells #[.bool i, .int .u64 n, .int .u64 s, .string h, .string d, .int .u64 t, .int .u64 q] 36)).alloc (.cells #[.int .i64 0, .int .u64 0, .slice none 0 0, .slice none 0 0] 49)) 49 #[.int .i64 0, .int .u64 t, .slice none 0 0, .slice none 0 0, .int .i64 0, .int .u64 q, .slice none 0 0, .slice none 0 0]).alloc (.cells #[.int .i64 4, .int .u64 0, .slice none 0 0, .slice (some ⟨w.heap.size + 1 + 1, 0, none⟩) 2 2] 49)
  have k3 := Blk.new (((w.alloc (.cells #[.bool i, .int .u64 n, .int .u64 s, .string h, .string d, .int .u64 t, .int .u64 q] 36)).alloc (.cells #[.int .i64 0, .int .u64 0, .slice none 0 0, .slice none 0 0] 49)).alloc (.cells #[.int .i64 0, .int .u64 t, .slice none 0 0, .slice none 0 0, .int .i64 0, .int .u64 q, .slice none 0 0, .slice none 0 0] 49)) 49 #[.int .i64 4, .int .u64 0, .slice none 0 0, .slice (some ⟨w.heap.size + 1 + 1, 0, none⟩) 2 2]
  simp only [World.size_alloc] at k1 k2 k3
  have HK := Lib.hid k0
  have HZ := Lib.hid k1
  have HP := Lib.hid k2
  have HQ := Lib.hid k3
  clear k0 k1 k2 k3
  go_enter Tryd.func27, Tryd.ntmps27
  go_upto_region 2 with (fail)
  generalize (((w.alloc (.cells #[.bool i, .int .u64 n, .int .u64 s, .string h, .string d, .int .u64 t, .int .u64 q] 36)).alloc (.cells #[.int .i64 0, .int .u64 0, .slice none 0 0, .slice none 0 0] 49)).alloc (.cells #[.int .i64 0, .int .u64 t, .slice none 0 0, .slice none 0 0, .int .i64 0, .int .u64 q, .slice none 0 0, .slice none 0 0] 49)).alloc (.cells #[.int .i64 4, .int .u64 0, .slice none 0 0, .slice (some ⟨w.heap.size + 1 + 1, 0, none⟩) 2 2] 49) = W at *
  have HIN := Lib.hid (list2r (item_num W (w.heap.size + 1 + 1) W.heap.size t HX.out.1) (item_num W (w.heap.size + 1 + 1) W.heap.size q HX.out.2) HP.out (Nat.le_refl _) HP.out.lt)
  have KC := Lib.hid (fun (w' : World) (hW : Below W.heap.size W w') => And.intro (cells7 (HK.out.next hW)) (cell4 (HQ.out.next hW)))
  have hne1 : w.heap.size ≠ w.heap.size + 1 := by omega
  have hne3 : w.heap.size + 1 + 1 + 1 ≠ w.heap.size + 1 := by omega
  have KF := Lib.hid (fun (w' : World) (hW : Below W.heap.size W w') (a b c e : Value) => And.intro (cells7 (set4_far (HK.out.next hW) hne1 a b c e)) (cell4 (set4_far (HQ.out.next hW) hne3 a b c e)))
  have KZ := Lib.hid (fun (w' : World) (hW : Below W.heap.size W w') => And.intro (cell4 (HZ.out.next hW)) (froz4 (HZ.out.next hW)))
  have HBd := Lib.hid (Below.refl W.heap.size W).drew
  clear hne1 hne3
  go_region_held3 (fun w' => (w'.cell? ⟨w.heap.size, 0, none⟩ = some (.bool i) ∧ w'.cell? ⟨w.heap.size, 1, none⟩ = some (.int .u64 n) ∧ w'.cell? ⟨w.heap.size, 2, none⟩ = some (.int .u64 s) ∧ w'.cell? ⟨w.heap.size, 3, none⟩ = some (.string h) ∧ w'.cell? ⟨w.heap.size, 4, none⟩ = some (.string d) ∧ w'.cell? ⟨w.heap.size, 5, none⟩ = some (.int .u64 t) ∧ w'.cell? ⟨w.heap.size, 6, none⟩ = some (.int .u64 q)) ∧ (w'.cell? ⟨w.heap.size + 1 + 1 + 1, 0, none⟩ = some (.int .i64 4) ∧ w'.cell? ⟨w.heap.size + 1 + 1 + 1, 1, none⟩ = some (.int .u64 0) ∧ w'.cell? ⟨w.heap.size + 1 + 1 + 1, 2, none⟩ = some (.slice none 0 0) ∧ w'.cell? ⟨w.heap.size + 1 + 1 + 1, 3, none⟩ = some (.slice (some ⟨w.heap.size + 1 + 1, 0, none⟩) 2 2)))
    (first | with_reducible exact KC.out _ HBd.out | with_reducible exact KC.out _ HBA.out | with_reducible exact KC.out _ (HBA.out.alloc HBA.out.size _) | with_reducible exact KF.out _ (HBA.out.alloc HBA.out.size _) _ _ _ _ | fail)
    (first | (go_at_call 60; (with_reducible refine (CW.out _).mono ?_); rintro e wA ⟨v, rfl, HIA, hbA⟩; have HBA := Lib.hid (below_next HBd.out HBd.out.size hbA); obtain ⟨ka, na, Aa, la, ca, Aa', la', ca', hva⟩ : ∃ ka na Aa la ca Aa' la' ca', v = .agg #[.int .i64 ka, .int .u64 na, .slice Aa la ca, .slice Aa' la' ca'] := (by obtain ⟨_, _, _, _, e, _⟩ := HIA.out.open_; exact ⟨_, _, _, _, _, _, _, _, e⟩); subst hva; obtain ⟨⟨z0, z1, z2, z3⟩, f0, f1, f2, f3⟩ := KZ.out _ (HBA.out.alloc HBA.out.size (.cells #[.int .i64 ka, .int .u64 na, .slice Aa la ca, .slice Aa' la' ca', .int .i64 4, .int .u64 0, .slice none 0 0, .slice (some ⟨w.heap.size + 1 + 1, 0, none⟩) 2 2] 49)); clear hbA) | fail)
  have HWB := Lib.hid (HBA.out.alloc HBA.out.size (.cells #[.int .i64 ka, .int .u64 na, .slice Aa la ca, .slice Aa' la' ca', .int .i64 4, .int .u64 0, .slice none 0 0, .slice (some ⟨w.heap.size + 1 + 1, 0, none⟩) 2 2] 49))
  have HNB := Lib.hid (Blk.new wA 49 #[.int .i64 ka, .int .u64 na, .slice Aa la ca, .slice Aa' la' ca', .int .i64 4, .int .u64 0, .slice none 0 0, .slice (some ⟨w.heap.size + 1 + 1, 0, none⟩) 2 2])
  have HIB := Lib.hid ((HIA.out.alloc (Nat.le_refl _) (.cells #[.int .i64 ka, .int .u64 na, .slice Aa la ca, .slice Aa' la' ca', .int .i64 4, .int .u64 0, .slice none 0 0, .slice (some ⟨w.heap.size + 1 + 1, 0, none⟩) 2 2] 49)).more (Nat.le_refl _) (show wA.heap.size ≤ (wA.alloc (.cells #[.int .i64 ka, .int .u64 na, .slice Aa la ca, .slice Aa' la' ca', .int .i64 4, .int .u64 0, .slice none 0 0, .slice (some ⟨w.heap.size + 1 + 1, 0, none⟩) 2 2] 49)).heap.size by simp))
  have HNL := Lib.hid (show w.heap.size + 1 + 1 < wA.heap.size from Nat.lt_of_lt_of_le HP.out.lt HBA.out.size)
  have HLW := Lib.hid (show w.heap.size + 1 + 1 ≤ W.heap.size from Nat.le_of_lt HP.out.lt)
  clear KC KF KZ HBd HBA HIA
  generalize hWB : wA.alloc (.cells #[.int .i64 ka, .int .u64 na, .slice Aa la ca, .slice Aa' la' ca', .int .i64 4, .int .u64 0, .slice none 0 0, .slice (some ⟨w.heap.size + 1 + 1, 0, none⟩) 2 2] 49) = WB at *
  clear hWB
  have HZB := Lib.hid (HZ.out.next HWB.out)
  have HBB := Lib.hid (below_next HB.out HB.out.size HWB.out)
  have HLL := Lib.hid (list2r (lo := w.heap.size + 1 + 1) (hi := WB.heap.size) (HIB.out.more HLW.out (Nat.le_refl _)) ((HIN.out.below HWB.out).more (Nat.le_refl _) HWB.out.size) HNB.out (Nat.le_of_lt HNL.out) HNB.out.lt)
  have HF1 := Lib.hid (set4_blk HZB.out (.int .i64 4) (.int .u64 0) (.slice none 0 0) (.slice (some ⟨wA.heap.size, 0, none⟩) 2 2))
  have HF2 := Lib.hid (set4_below HBB.out (Nat.le_succ _) (.int .i64 4) (.int .u64 0) (.slice none 0 0) (.slice (some ⟨wA.heap.size, 0, none⟩) 2 2))
  have HF3 : Hid (ItemV (set4 WB (w.heap.size + 1) (.int .i64 4) (.int .u64 0) (.slice none 0 0) (.slice (some ⟨wA.heap.size, 0, none⟩) 2 2)) w.heap.size (set4 WB (w.heap.size + 1) (.int .i64 4) (.int .u64 0) (.slice none 0 0) (.slice (some ⟨wA.heap.size, 0, none⟩) 2 2)).heap.size T (.agg #[.int .i64 4, .int .u64 0, .slice none 0 0, .slice (some ⟨wA.heap.size, 0, none⟩) 2 2])) := Lib.hid (by
    rw [set4_size, HT.out]
    exact (HLL.out.set4 (.inl (Nat.lt_succ_self _)) _ _ _ _).more (by omega) (Nat.le_refl _))
  clear z0 z1 z2 z3 f0 f1 f2 f3 HIB HNB HZB HBB HLL HIN HNL HLW HWB
  generalize hW9 : set4 WB (w.heap.size + 1) (.int .i64 4) (.int .u64 0) (.slice none 0 0) (.slice (some ⟨wA.heap.size, 0, none⟩) 2 2) = W9 at HF1 HF2 HF3
  unfold set4 at hW9
  rw [hW9]
  go_wp2_with fail
  obtain ⟨z0, z1, z2, z3⟩ := cell4 HF1.out
  refine bodyPost_ret (v := .agg #[.int .i64 4, .int .u64 0, .slice none 0 0, .slice (some ⟨wA.heap.size, 0, none⟩) 2 2]) (by simp [results, Tryd.results27, go_sem, *]) rfl ⟨_, rfl, HF3, HF2.out⟩

set_option maxRecDepth 100000 in
set_option maxHeartbeats 4000000 in
theorem text05_any (x : Id) (hx : x.ok) (hr : iright x = true) (w : World) : Calls Tryd.prog 25 #[x.val] w fun e w' => e = .returned (.string (itext x)) ∧ Below w.heap.size w w' := by
  have hr' : right x.src = true := by unfold iright at hr; simp at hr; exact hr.1
  have CT := Lib.hid (fun w' => text04_any x.src hx.s hr' w')
  have hts := text_size x.src hx.s hr'
  have HD1 := Lib.hid (dec_size x.time hx.t0 hx.t1)
  have HD2 := Lib.hid (dec_size x.seq hx.q0 hx.q1)
  have CF1 : Hid (∀ w', Calls Tryd.prog 59 #[.int .u64 x.time] w' fun e w1 => e = .returned (.string (dec x.time)) ∧ Below w'.heap.size w' w1) := Lib.hid (fun w' => by
    have h := digits04_any x.time.toNat (by have := hx.t1; omega) w'
    rw [Int.toNat_of_nonneg hx.t0] at h
    exact h)
  have CF2 : Hid (∀ w', Calls Tryd.prog 59 #[.int .u64 x.seq] w' fun e w1 => e = .returned (.string (dec x.seq)) ∧ Below w'.heap.size w' w1) := Lib.hid (fun w' => by
    have h := digits04_any x.seq.toNat (by have := hx.q1; omega) w'
    rw [Int.toNat_of_nonneg hx.q0] at h
    exact h)
  have HT := Lib.hid (show itext x = (((textOf x.src ++ (⟨#[45]⟩ : ByteArray)) ++ dec x.time) ++ (⟨#[45]⟩ : ByteArray)) ++ dec x.seq from rfl)
  clear hx hr hr'
  generalize itext x = T at *
  generalize textOf x.src = S at *
  generalize dec x.time = A at *
  generalize dec x.seq = B at *
  obtain ⟨⟨i, n, s, h, d⟩, t, q⟩ := x
  have HB := Lib.hid ((Below.refl w.heap.size w).alloc (Nat.le_refl _) (.cells #[.bool i, .int .u64 n, .int .u64 s, .string h, .string d, .int .u64 t, .int .u64 q] 36))
  have HK := Lib.hid (Blk.new w 36 #[.bool i, .int .u64 n, .int .u64 s, .string h, .string d, .int .u64 t, .int .u64 q])
  have q1 : ¬ 9223372036854775807 < S.size + 1 := by omega
  have q2 : ¬ 9223372036854775807 < S.size + 1 + A.size := by have := HD1.out; omega
  have q3 : ¬ 9223372036854775807 < S.size + 1 + A.size + 1 := by have := HD1.out; omega
  have q4 : ¬ 9223372036854775807 < S.size + 1 + A.size + 1 + B.size := by have := HD1.out; have := HD2.out; omega
  clear hts
  go_enter Tryd.func25, Tryd.ntmps25
  go_upto_region 1 with (fail)
  generalize w.alloc (.cells #[.bool i, .int .u64 n, .int .u64 s, .string h, .string d, .int .u64 t, .int .u64 q] 36) = W at *
  have KC := Lib.hid (fun (w' : World) (hW : Below W.heap.size W w') => cells7 (HK.out.next hW))
  have HBd := Lib.hid ((Below.refl W.heap.size W).drew)
  go_region_held3 (fun w' => w'.cell? ⟨w.heap.size, 0, none⟩ = some (.bool i) ∧ w'.cell? ⟨w.heap.size, 1, none⟩ = some (.int .u64 n) ∧ w'.cell? ⟨w.heap.size, 2, none⟩ = some (.int .u64 s) ∧ w'.cell? ⟨w.heap.size, 3, none⟩ = some (.string h) ∧ w'.cell? ⟨w.heap.size, 4, none⟩ = some (.string d) ∧ w'.cell? ⟨w.heap.size, 5, none⟩ = some (.int .u64 t) ∧ w'.cell? ⟨w.heap.size, 6, none⟩ = some (.int .u64 q))
    (first | with_reducible exact KC.out _ HBd.out | with_reducible exact KC.out _ HB2.out | with_reducible exact KC.out _ HB3.out | with_reducible exact KC.out _ HB4.out | fail)
    (first | (go_at_call 58; (with_reducible refine (CT.out _).mono ?_); rintro e w2 ⟨rfl, hb2⟩; have HB2 := Lib.hid (below_next HBd.out HBd.out.size hb2); clear hb2) | (go_at_call 59; (with_reducible refine (CF2.out w3).mono ?_); rintro e w4 ⟨rfl, hb4⟩; have HB4 := Lib.hid (below_next HB3.out HB3.out.size hb4); clear hb4) | (go_at_call 59; (with_reducible refine (CF1.out w2).mono ?_); rintro e w3 ⟨rfl, hb3⟩; have HB3 := Lib.hid (below_next HB2.out HB2.out.size hb3); clear hb3) | fail)
  go_wp2_with fail
  go_ret
  exact ⟨by rw [HT.out]; rfl, below_next HB.out HB.out.size HB4.out⟩

set_option maxHeartbeats 4000000 in
theorem next05_any (x : Id) (now : Int) (w : World) (h0 : 0 ≤ x.seq) (h1 : x.seq ≤ 1099511627776) : Calls Tryd.prog 34 #[x.val, .int .u64 now] w fun e w' => e = .returned (.tuple #[(inext x now).1.val, .int .i64 (inext x now).2]) ∧ Below w.heap.size w w' := by
  have HD := Lib.hid (show inext x now = if 1099511627776 < now then (x, 1) else if x.time < now then (⟨x.src, now, 0⟩, 0) else if 1099511627776 ≤ x.seq then (x, 5) else (⟨x.src, x.time, x.seq + 1⟩, 0) from rfl)
  generalize inext x now = P at *
  obtain ⟨⟨i, n, s, h, d⟩, t, q⟩ := x
  replace h0 : 0 ≤ q := h0
  replace h1 : q ≤ 1099511627776 := h1
  have HB := Lib.hid (((Below.refl w.heap.size w).alloc (Nat.le_refl _) (.cells #[.bool i, .int .u64 n, .int .u64 s, .string h, .string d, .int .u64 t, .int .u64 q] 36)).alloc (by simp) (.cells zero7 36))
  have HK := Lib.hid ((Blk.new w 36 #[.bool i, .int .u64 n, .int .u64 s, .string h, .string d, .int .u64 t, .int .u64 q]).alloc (.cells zero7 36))
  have HZ := Lib.hid (Blk.new (w.alloc (.cells #[.bool i, .int .u64 n, .int .u64 s, .string h, .string d, .int .u64 t, .int .u64 q] 36)) 36 zero7)
  rw [World.size_alloc] at HZ
  go_enter Tryd.func34, Tryd.ntmps34
  go_upto_region 1 with (fail)
  generalize (w.alloc (.cells #[.bool i, .int .u64 n, .int .u64 s, .string h, .string d, .int .u64 t, .int .u64 q] 36)).alloc (.cells #[.bool false, .int .u64 0, .int .u64 0, .string ⟨#[]⟩, .string ⟨#[]⟩, .int .u64 0, .int .u64 0] 36) = W at *
  obtain ⟨c0, c1, c2, c3, c4, c5, c6⟩ := cells7 HK.out
  obtain ⟨z0, z1, z2, z3, z4, z5, z6⟩ := cells7 HZ.out
  obtain ⟨f0, f1, f2, f3, f4, f5, f6⟩ := froz7 HZ.out
  cases a1 : decide (1099511627776 < now)
  rotate_left
  · have HP := Lib.hid (show P = (⟨⟨i, n, s, h, d⟩, t, q⟩, 1) by rw [HD.out, if_pos (of_decide_eq_true a1)])
    go_wp2_with fail
    have HF1 := Lib.hid (set7_blk HZ.out (.bool i) (.int .u64 n) (.int .u64 s) (.string h) (.string d) (.int .u64 t) (.int .u64 q))
    have HF2 := Lib.hid (set7_below HB.out (Nat.le_succ _) (.bool i) (.int .u64 n) (.int .u64 s) (.string h) (.string d) (.int .u64 t) (.int .u64 q))
    clear z0 z1 z2 z3 z4 z5 z6 f0 f1 f2 f3 f4 f5 f6 c0 c1 c2 c3 c4 c5 c6
    generalize hW9 : set7 W (w.heap.size + 1) (.bool i) (.int .u64 n) (.int .u64 s) (.string h) (.string d) (.int .u64 t) (.int .u64 q) = W9 at HF1 HF2
    unfold set7 at hW9
    rw [hW9]
    obtain ⟨z0, z1, z2, z3, z4, z5, z6⟩ := cells7 HF1.out
    refine bodyPost_ret (v := .tuple #[.agg #[.bool i, .int .u64 n, .int .u64 s, .string h, .string d, .int .u64 t, .int .u64 q], .int .i64 1]) (by simp [results, Tryd.results34, go_sem, *]) rfl ⟨by rw [HP.out], HF2.out⟩
  cases a2 : decide (t < now)
  rotate_left
  · have HP := Lib.hid (show P = (⟨⟨i, n, s, h, d⟩, now, 0⟩, 0) by rw [HD.out, if_neg (of_decide_eq_false a1), if_pos (of_decide_eq_true a2)])
    go_wp2_with fail
    have HF1 := Lib.hid (set7_blk HZ.out (.bool i) (.int .u64 n) (.int .u64 s) (.string h) (.string d) (.int .u64 now) (.int .u64 0))
    have HF2 := Lib.hid (set7_below HB.out (Nat.le_succ _) (.bool i) (.int .u64 n) (.int .u64 s) (.string h) (.string d) (.int .u64 now) (.int .u64 0))
    clear z0 z1 z2 z3 z4 z5 z6 f0 f1 f2 f3 f4 f5 f6 c0 c1 c2 c3 c4 c5 c6
    generalize hW9 : set7 W (w.heap.size + 1) (.bool i) (.int .u64 n) (.int .u64 s) (.string h) (.string d) (.int .u64 now) (.int .u64 0) = W9 at HF1 HF2
    unfold set7 at hW9
    rw [hW9]
    obtain ⟨z0, z1, z2, z3, z4, z5, z6⟩ := cells7 HF1.out
    refine bodyPost_ret (v := .tuple #[.agg #[.bool i, .int .u64 n, .int .u64 s, .string h, .string d, .int .u64 now, .int .u64 0], .int .i64 0]) (by simp [results, Tryd.results34, go_sem, *]) rfl ⟨by rw [HP.out], HF2.out⟩
  by_cases a3 : q = 1099511627776
  · have HP := Lib.hid (show P = (⟨⟨i, n, s, h, d⟩, t, q⟩, 5) by rw [HD.out, if_neg (of_decide_eq_false a1), if_neg (of_decide_eq_false a2), if_pos (by show 1099511627776 ≤ q; omega)])
    have t3 : (q == 1099511627776) = true := by simpa using a3
    clear a3 h0 h1
    go_wp2_with fail
    have HF1 := Lib.hid (set7_blk HZ.out (.bool i) (.int .u64 n) (.int .u64 s) (.string h) (.string d) (.int .u64 t) (.int .u64 q))
    have HF2 := Lib.hid (set7_below HB.out (Nat.le_succ _) (.bool i) (.int .u64 n) (.int .u64 s) (.string h) (.string d) (.int .u64 t) (.int .u64 q))
    clear z0 z1 z2 z3 z4 z5 z6 f0 f1 f2 f3 f4 f5 f6 c0 c1 c2 c3 c4 c5 c6
    generalize hW9 : set7 W (w.heap.size + 1) (.bool i) (.int .u64 n) (.int .u64 s) (.string h) (.string d) (.int .u64 t) (.int .u64 q) = W9 at HF1 HF2
    unfold set7 at hW9
    rw [hW9]
    obtain ⟨z0, z1, z2, z3, z4, z5, z6⟩ := cells7 HF1.out
    refine bodyPost_ret (v := .tuple #[.agg #[.bool i, .int .u64 n, .int .u64 s, .string h, .string d, .int .u64 t, .int .u64 q], .int .i64 5]) (by simp [results, Tryd.results34, go_sem, *]) rfl ⟨by rw [HP.out], HF2.out⟩
  · have HP := Lib.hid (show P = (⟨⟨i, n, s, h, d⟩, t, q + 1⟩, 0) by rw [HD.out, if_neg (of_decide_eq_false a1), if_neg (of_decide_eq_false a2), if_neg (by show ¬ 1099511627776 ≤ q; omega)])
    have t3 : (q == 1099511627776) = false := by simpa using a3
    have hw : IntKind.u64.wrap (q + 1) = q + 1 := by rw [IntKind.wrap_u64]; omega
    clear a3
    go_wp2_with fail
    try rw [hw]
    have HF1 := Lib.hid (set7_blk HZ.out (.bool i) (.int .u64 n) (.int .u64 s) (.string h) (.string d) (.int .u64 t) (.int .u64 (q + 1)))
    have HF2 := Lib.hid (set7_below HB.out (Nat.le_succ _) (.bool i) (.int .u64 n) (.int .u64 s) (.string h) (.string d) (.int .u64 t) (.int .u64 (q + 1)))
    clear z0 z1 z2 z3 z4 z5 z6 f0 f1 f2 f3 f4 f5 f6 c0 c1 c2 c3 c4 c5 c6
    generalize hW9 : set7 W (w.heap.size + 1) (.bool i) (.int .u64 n) (.int .u64 s) (.string h) (.string d) (.int .u64 t) (.int .u64 (q + 1)) = W9 at HF1 HF2
    unfold set7 at hW9
    rw [hW9]
    obtain ⟨z0, z1, z2, z3, z4, z5, z6⟩ := cells7 HF1.out
    refine bodyPost_ret (v := .tuple #[.agg #[.bool i, .int .u64 n, .int .u64 s, .string h, .string d, .int .u64 t, .int .u64 (q + 1)], .int .i64 0]) (by simp [results, Tryd.results34, go_sem, *]) rfl ⟨by rw [HP.out], HF2.out⟩
end Go.Proofs.YtbgcbcnidjlhnaaDoor.Eid
