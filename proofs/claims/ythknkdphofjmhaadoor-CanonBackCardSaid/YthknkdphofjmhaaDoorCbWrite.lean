/- The contracts of cbor.appendItem and cbor.Write. -/
import Derived.Test.YthknkdphofjmhaaDoorCbRight
import Derived.Test.YthknkdphofjmhaaDoorZg7
namespace Go.Proofs.YthknkdphofjmhaaDoor.CbWrite
open Go.RowKit Wd Cb CbCopy CbRight
attribute [local go_sem ↓] Go.wp_at_zero Go.wp_at_succ

theorem own_blk_ne {w : World} {base g : Nat} {e t : TypeId} {size n : Nat} {v : Value} {xs : List Value} {cs : Array Value} (h : w.ownsRow base e size v n xs) (hg : Blk w g t cs) (hne : e ≠ t) : v.ownBlock ≠ some g := by
  rcases h.2 with ⟨rfl, _⟩ | ⟨g', cap, cur, rfl, _, hh, _⟩
  · simp [Value.ownBlock]
  · intro he
    have : g' = g := by simpa [Value.ownBlock] using he
    subst this
    unfold Blk at hg
    rw [hh] at hg
    injection hg with hg
    injection hg with _ ht
    exact hne ht
theorem Lst.drew {w : World} {B : Nat} {A : Option Addr} {vs : List Value} (h : Lst w B A vs) : Lst w.drew B A vs := Lst.keep (w := w) (w' := w.drew) h fun _ _ => rfl
theorem own_next {a b c : World} {r r' : Option Nat} (h : a.grownBy b r) (k : b.grownBy c r') (hr : ∀ g, r' = some g → r = some g ∨ a.heap.size ≤ g) : a.grownBy c r :=
  ⟨k.os.trans h.os, k.tape.trans h.tape, k.output.trans h.output, Nat.le_trans h.size k.size, fun i hi hne => (k.block i (Nat.lt_of_lt_of_le hi h.size) (fun e => by
    rcases hr i e.symm with h1 | h1
    · exact hne h1.symm
    · omega)).trans (h.block i hi hne)⟩
theorem Blk.grown {w w' : World} {g : Nat} {t : TypeId} {cs : Array Value} {row : Option Nat} (h : Blk w g t cs) (hb : w.grownBy w' row) (hg : row ≠ some g) : Blk w' g t cs := (hb.block g h.lt (Ne.symm hg)).trans h
/-- Where a row's block lies behind an append. -/
theorem own_where {w W : World} {v v' : Value} {r : Option Nat} (hr : ∀ g, v.ownBlock = some g → r = some g ∨ W.heap.size ≤ g) (hat : v'.ownBlock = v.ownBlock ∨ v'.ownBlock = some w.heap.size) (hs : W.heap.size ≤ w.heap.size) :
    ∀ g, v'.ownBlock = some g → r = some g ∨ W.heap.size ≤ g := fun g hg => by
  rcases hat with e | e
  · exact hr g (by rw [← e]; exact hg)
  · rw [e] at hg
    injection hg with hg
    exact .inr (by omega)

set_option maxRecDepth 100000 in
set_option maxHeartbeats 2000000 in
theorem appendItem_any (N : Nat) : ∀ (x : Itm) (v v0 : Value) (B base n0 : Nat) (xs : List Int) (w : World), deep x ≤ N → fine x = true → ItemV w 0 B x v → B ≤ base → base ≤ w.heap.size → w.ownsRow base 5 1 v0 n0 (u8s xs) → n0 + (enc x).length ≤ 100000000000000 →
    Calls Tryd.prog 56 #[v0, v] w fun e w' => ∃ v1, e = .returned v1 ∧ Hid (w'.ownsRow base 5 1 v1 (n0 + (enc x).length) (u8s (xs ++ enc x))) ∧ Hid (w.grownBy w' v0.ownBlock) ∧ Hid (∀ g, v1.ownBlock = some g → v0.ownBlock = some g ∨ w.heap.size ≤ g) := by
  obtain ⟨i0, hi0, hz0, hz1, hz2⟩ := info_parts info_u8
  induction N with
  | zero => intro x v v0 B base n0 xs w hN; have := deep_pos x; omega
  | succ N ih =>
    intro x v v0 B base n0 xs w hN hfi hv hB hbase hown hlen
    obtain ⟨A, c, A', c', rfl, hk, hn, hb, h1, h2, h3, h4, h5, h6⟩ := hv.open_
    have hkk : (x.kind = 0 ∧ cn x = x.num) ∨ (x.kind = 2 ∧ cn x = x.bs.length) ∨ (x.kind = 3 ∧ cn x = x.bs.length) ∨ (x.kind = 4 ∧ cn x = x.sub.length) := by
      rcases fine_kind x hfi with h | h | h | h <;> simp [cn, h]
    have hfl : fines x.sub = true := by rw [fine_sub] at hfi; exact (Bool.and_eq_true_iff.1 hfi).2
    have hdl : deeps x.sub ≤ N := by have := deep_sub x; omega
    have hen := enc_sub x
    have hmx : ∀ k, k ≤ 200000000000000 → k ≤ maxLen := fun k hk => by unfold maxLen; omega
    have HM := Lib.hid hmx
    unfold maxLen at h2 h5
    have hcn : 0 ≤ cn x ∧ cn x ≤ 18446744073709551615 := by rcases hkk with h | h | h | h <;> omega
    have CH := Lib.hid (fun (W : World) => HeadW.write_yes x.kind (cn x) false W (by rcases hkk with h | h | h | h <;> simp [HeadP.right, h]) hcn.1 hcn.2)
    generalize cn x = m at *
    generalize x.kind = k at *
    generalize x.num = n at *
    generalize x.bs = b at *
    generalize x.sub = l at *
    obtain ⟨hd, hhd⟩ : ∃ hd, HeadP.bytes k m false = hd := ⟨_, rfl⟩
    rw [hhd] at CH hen
    have HEN := Lib.hid hen
    have hlen2 : n0 + (hd.length + b.length + (encs l).length) ≤ 100000000000000 := by rw [hen] at hlen; simp only [List.length_append] at hlen; exact hlen
    obtain ⟨A0, c0, rfl, hc0, hm0⟩ := own_sl hown
    have HO0 := Lib.hid hown
    have HI := Lib.hid h6
    have HS := Lib.hid h3
    have HFL := Lib.hid hfl
    clear hv hhd hen h6 h3 hfi hmx hown hlen hcn hfl
    rcases hkk with ⟨rfl, rfl⟩ | ⟨rfl, rfl⟩ | ⟨rfl, rfl⟩ | ⟨rfl, rfl⟩
    all_goals
      go_enter Tryd.func56, Tryd.ntmps56
      go_wp2_with fail
      refine (CH.out _).mono ?_
      rintro e w1 ⟨vh, rfl, hoh, hb1⟩
      obtain ⟨Ah, ch, rfl, hch, hmh⟩ := own_sl hoh
      obtain ⟨hbk1, hz1', hbw1⟩ := box4 hb1
      obtain ⟨cs, hcs2, hcs3, hkb⟩ : ∃ cs : Array Value, cs[2]? = some (.slice A b.length c) ∧ cs[3]? = some (.slice A' l.length c') ∧ Blk w1 w.heap.size 26 cs := ⟨_, rfl, rfl, hbk1⟩
      have HOH := Lib.hid hoh
      have HK1 := Lib.hid hkb
      have HW1 := Lib.hid hbw1
      have HO1 := Lib.hid (own_later HO0.out hbw1)
      have c2 : w1.cell? ⟨w.heap.size, 2, none⟩ = some (.slice A b.length c) := (hkb.cell 2).trans hcs2
      have KP := Lib.hid (fun (W : World) (h : Blk W w.heap.size 26 cs) => (h.cell 2).trans hcs2)
      have KQ := Lib.hid (fun (W : World) (h : Blk W w.heap.size 26 cs) => (h.cell 3).trans hcs3)
      have hlt0 : ∀ g, (Value.slice A0 n0 c0).ownBlock = some g → base ≤ g := fun g hg => (HO0.out.lt g hg).1
      have HL0 := Lib.hid hlt0
      have HG1 := Lib.hid (only_below (r := (Value.slice A0 n0 c0).ownBlock) hbw1)
      have m1 : n0 + hd.length ≤ maxLen := HM.out _ (by omega)
      have m2 : (n0 + hd.length) * 1 ≤ 140737488355328 := by omega
      have m3 : base ≤ w1.drew.heap.size := Nat.le_trans hbase HW1.out.size
      have m4 : n0 + hd.length + b.length ≤ maxLen := HM.out _ (by omega)
      have m5 : (n0 + hd.length + b.length) * 1 ≤ 140737488355328 := by omega
      have LH := Lib.hid (Lst.drew (Lst.of_own hoh))
      have MN : w.heap.size ≤ w1.drew.heap.size := HW1.out.size
      have NE1 := Lib.hid (own_blk_ne HO1.out.drew HK1.out.drew (by decide))
      have HB1 := Lib.hid ((HW1.out.mono hbase).drew)
      have AW : Hid (∀ v2 : Value, (v2.ownBlock = (Value.slice A0 n0 c0).ownBlock ∨ v2.ownBlock = some w1.drew.heap.size) → ∀ g, v2.ownBlock = some g → (Value.slice A0 n0 c0).ownBlock = some g ∨ w.heap.size ≤ g) :=
        Lib.hid (fun v2 h => own_where (w := w1.drew) (W := w) (v := .slice A0 n0 c0) (fun g hg => Or.inl hg) h MN)
      clear hb1 hoh hbk1 hbw1 hkb c2 hcs2 hcs3 hlt0
      go_wp2_with fail
      go_region_held3 (fun w' => w'.cell? ⟨w.heap.size, 2, none⟩ = some (.slice A b.length c))
        (first | exact KP.out _ HK1.out.drew | exact KP.out _ HK2.out | exact KP.out _ HK3.out)
        (first | (refine step_append_lst _ (by rfl) (.tmp 35) (.tmp 36) _ (by rfl) base 5 i0 _ 1 Tryd.underlying23 hi0 hz0 hz1 hz2 rfl (.slice A0 n0 c0) n0 (u8s xs) (by rfl) HO1.out.drew w1.heap.size Ah hd.length ch (u8s hd) (by rfl) (by simp) LH.out (u8_one hd) m1 m2 m3 ?_; intro v2 w2 hown2 hg2 hat2; have HO2 := Lib.hid hown2; have HG2 := Lib.hid (own_next (only_drew HG1.out) hg2 (fun g hg => .inl hg)); have HA2 := Lib.hid (AW.out v2 hat2); have HK2 := Lib.hid (Blk.grown HK1.out.drew hg2 NE1.out); have HB2 := Lib.hid (HB1.out.grown hg2 m3 HL0.out); clear hown2 hg2 hat2) | (refine step_append_lst _ (by rfl) (.tmp 37) (.tmp 39) _ (by rfl) base 5 i0 _ 1 Tryd.underlying23 hi0 hz0 hz1 hz2 rfl v2 (n0 + hd.length) (u8s xs ++ u8s hd) (by rfl) HO2.out B A b.length c (u8s b) (by rfl) (by simp) (HS.out.lst.below' HB2.out hB) (u8_one b) m4 m5 (Nat.le_trans hbase HB2.out.size) ?_; intro v3 w3 hown3 hg3 hat3; have HO3 := Lib.hid hown3; have HG3 := Lib.hid (own_next HG2.out hg3 HA2.out); have HA3 := Lib.hid (own_where HA2.out hat3 HB2.out.size); have HK3 := Lib.hid (Blk.grown HK2.out hg3 (own_blk_ne HO2.out HK2.out (by decide))); clear hown3 hg3 hat3))
      have c3 : w3.cell? ⟨w.heap.size, 3, none⟩ = some (.slice A' l.length c') := KQ.out _ HK3.out
      have HO3' : Hid (w3.ownsRow base 5 1 v3 (n0 + (hd ++ b ++ encs (l.take 0)).length) (u8s (xs ++ (hd ++ b ++ encs (l.take 0))))) := Lib.hid (by
        have h := HO3.out
        simpa [u8s, encs, Nat.add_assoc] using h)
      clear HO3 HO2 HG2 HA2 HK2 HB2 HO1 HK1 HW1 HOH LH NE1 HB1 AW HG1 KP KQ CH m1 m2 m3 m4 m5 MN
      go_wp2_with fail
      go_loopw [0, 44] (fun u i wr => ∃ (j : Nat) (vv : Value), j ≤ l.length ∧ i = .int .i64 j ∧ vv = u ∧ Hid (wr.ownsRow base 5 1 vv (n0 + (hd ++ b ++ encs (l.take j)).length) (u8s (xs ++ (hd ++ b ++ encs (l.take j))))) ∧ Hid (w.grownBy wr (Value.slice A0 n0 c0).ownBlock) ∧
          Hid (∀ g, vv.ownBlock = some g → (Value.slice A0 n0 c0).ownBlock = some g ∨ w.heap.size ≤ g)) (fun _ i _ => l.length - (intOf i).toNat)
      case atStart => exact ⟨0, v3, by omega, rfl, rfl, HO3', HG3, HA3⟩
      case round =>
        obtain ⟨j, u, hj, rfl, rfl, HOj, HGj, HAj⟩ := hrel
        clear HO3' HG3 HA3 HK3
        by_cases hlt : j < l.length
        · have hbw := (Below.refl base w).grown HGj.out hbase HL0.out
          obtain ⟨bb, o, A1, n1, A2, n2, rfl, _, hbl, e0, e1, e2, e3, q1, q2, q3, q4, q5, q6, q7, q8, q9⟩ := (HI.out.below (hbw.mono hB)).at_ hlt
          have hin := ItemV.of (lo := 0) (hi := B) q1 q2 q3 q4 q5 q6 q7 q8 q9
          have hwz : w.heap.size ≤ wr.heap.size := HGj.out.size
          have hes := encs_snoc l j hlt
          have hel := encs_take_le l (j + 1)
          have hsum : (hd ++ b ++ encs (l.take j)).length + (enc l[j]).length = (hd ++ b ++ encs (l.take (j + 1))).length := by rw [hes]; simp; omega
          have hle : n0 + (hd ++ b ++ encs (l.take j)).length + (enc l[j]).length ≤ 100000000000000 := by
            have : (hd ++ b ++ encs (l.take (j + 1))).length ≤ hd.length + b.length + (encs l).length := by simp only [List.length_append]; omega
            omega
          have C1 := Lib.hid (fun (W : World) (hW : Below wr.heap.size wr W) => ih l[j] _ u B base (n0 + (hd ++ b ++ encs (l.take j)).length) (xs ++ (hd ++ b ++ encs (l.take j))) W (by have := deep_at l j hlt; omega) (fines_at l j hlt HFL.out) (hin.below (hW.mono (by omega))) hB (by have := hW.size; omega) (own_later HOj.out hW) hle)
          have HES := Lib.hid hes
          have HSUM := Lib.hid hsum
          clear hin hes hel hsum hle q6 q9 hbw
          go_wp2_with fail
          refine (C1.out _ ((Below.refl _ _).alloc (Nat.le_refl _) _)).mono ?_
          rintro e w5 ⟨u5, rfl, HO5, HG5, HA5⟩
          have HGn := Lib.hid (own_next (only_alloc HGj.out (.cells #[.int .i64 l[j].kind, .int .u64 l[j].num, .slice A1 l[j].bs.length n1, .slice A2 l[j].sub.length n2] 26)) HG5.out HAj.out)
          have HAn : Hid (∀ g, u5.ownBlock = some g → (Value.slice A0 n0 c0).ownBlock = some g ∨ w.heap.size ≤ g) := Lib.hid (fun g hg => by
            rcases HA5.out g hg with h | h
            · exact HAj.out g h
            · rw [World.size_alloc] at h
              exact .inr (by omega))
          have HOn : Hid (w5.ownsRow base 5 1 u5 (n0 + (hd ++ b ++ encs (l.take (j + 1))).length) (u8s (xs ++ (hd ++ b ++ encs (l.take (j + 1)))))) := Lib.hid (by
            have h := HO5.out
            rw [Nat.add_assoc, HSUM.out] at h
            rw [HES.out]
            rw [HES.out] at h
            simpa only [List.append_assoc] using h)
          clear HO5 HG5 HA5 HOj HGj HAj C1 e0 e1 e2 e3
          go_wp2_with fail
          go_roundw
          case rel => exact ⟨j + 1, u5, by omega, by go_num, rfl, HOn, HGn, HAn⟩
          case measure => simp [intOf]; omega
        · obtain rfl : j = l.length := by omega
          go_wp2_with fail
          go_ret
          refine ⟨u, rfl, ?_, HGj, HAj⟩
          have h := HOj.out
          rw [take_all, ← HEN.out] at h
          exact Lib.hid h

theorem write_no (x : Itm) (v : Value) (B : Nat) (w : World) (hv : ItemV w 0 B x v) (hB : B ≤ w.heap.size) (hT : Tabs w) (hr : right x = false) :
    Calls Tryd.prog 32 #[v] w fun e w' => e = .returned (.tuple #[.slice none 0 0, .int .i64 3]) ∧ Below w.heap.size w w' := by
  obtain ⟨A, c, A', c', rfl, hk, hn, hb, h1, h2, h3, h4, h5, h6⟩ := hv.open_
  have hb0 : Below w.heap.size w (w.alloc (.cells #[.int .i64 x.kind, .int .u64 x.num, .slice A x.bs.length c, .slice A' x.sub.length c'] 26)) := (Below.refl _ _).alloc (Nat.le_refl _) _
  have CR := Lib.hid (right_any x (.agg #[.int .i64 x.kind, .int .u64 x.num, .slice A x.bs.length c, .slice A' x.sub.length c']) B (w.alloc (.cells #[.int .i64 x.kind, .int .u64 x.num, .slice A x.bs.length c, .slice A' x.sub.length c'] 26)) (hv.below (hb0.mono hB)) (by simp; omega) (hT.below hb0 (Nat.le_refl _)))
  rw [hr] at CR
  generalize x.kind = k at *
  generalize x.num = n at *
  generalize x.bs = b at *
  generalize x.sub = l at *
  clear hv h3 h6 hb0 hT hr
  go_enter Tryd.func32, Tryd.ntmps32
  go_wp2_with fail
  refine CR.out.mono ?_
  rintro e w1 ⟨rfl, hb1⟩
  have HB := Lib.hid (below_box (Below.refl w.heap.size w) (Nat.le_refl _) hb1)
  clear hb1 CR
  go_wp2_with fail
  exact bodyPost_ret (v := .tuple #[.slice none 0 0, .int .i64 3]) (by simp [results, Tryd.results32, go_sem]) rfl ⟨rfl, HB.out⟩

set_option maxHeartbeats 1000000 in
theorem write_yes (x : Itm) (v : Value) (B : Nat) (w : World) (hv : ItemV w 0 B x v) (hB : B ≤ w.heap.size) (hT : Tabs w) (hr : right x = true) (hl : (enc x).length ≤ 100000000000000) :
    Calls Tryd.prog 32 #[v] w fun e w' => ∃ A', e = .returned (.tuple #[.slice A' (enc x).length (enc x).length, .int .i64 0]) ∧ Hid (Seg w' w.heap.size w'.heap.size A' (u8s (enc x))) ∧ Below w.heap.size w w' := by
  obtain ⟨A, c, A', c', rfl, hk, hn, hb, h1, h2, h3, h4, h5, h6⟩ := hv.open_
  have hb0 : Below w.heap.size w (w.alloc (.cells #[.int .i64 x.kind, .int .u64 x.num, .slice A x.bs.length c, .slice A' x.sub.length c'] 26)) := (Below.refl _ _).alloc (Nat.le_refl _) _
  have CR := Lib.hid (right_any x (.agg #[.int .i64 x.kind, .int .u64 x.num, .slice A x.bs.length c, .slice A' x.sub.length c']) B (w.alloc (.cells #[.int .i64 x.kind, .int .u64 x.num, .slice A x.bs.length c, .slice A' x.sub.length c'] 26)) (hv.below (hb0.mono hB)) (by simp; omega) (hT.below hb0 (Nat.le_refl _)))
  have hf : fine x = true := by unfold right at hr; exact (Bool.and_eq_true_iff.1 hr).2
  have CA := Lib.hid (fun (W : World) (hW : Below w.heap.size w W) => appendItem_any (deep x) x (.agg #[.int .i64 x.kind, .int .u64 x.num, .slice A x.bs.length c, .slice A' x.sub.length c']) (.slice none 0 0) B w.heap.size 0 [] W (Nat.le_refl _) hf (hv.below (hW.mono hB)) hB hW.size ⟨rfl, .inl ⟨rfl, rfl⟩⟩ (by omega))
  rw [hr] at CR
  have hm : (enc x).length ≤ 9223372036854775807 := by omega
  generalize x.kind = k at *
  generalize x.num = n at *
  generalize x.bs = b at *
  generalize x.sub = l at *
  generalize enc x = E at *
  clear hv h3 h6 hb0 hT hr hf
  go_enter Tryd.func32, Tryd.ntmps32
  go_wp2_with fail
  refine CR.out.mono ?_
  rintro e w1 ⟨rfl, hb1⟩
  obtain ⟨hbk, hz, hbw⟩ := box4 hb1
  have c0 : w1.cell? ⟨w.heap.size, 0, none⟩ = some (.int .i64 k) := by simpa using hbk.cell 0
  have c1 : w1.cell? ⟨w.heap.size, 1, none⟩ = some (.int .u64 n) := by simpa using hbk.cell 1
  have c2 : w1.cell? ⟨w.heap.size, 2, none⟩ = some (.slice A b.length c) := by simpa using hbk.cell 2
  have c3 : w1.cell? ⟨w.heap.size, 3, none⟩ = some (.slice A' l.length c') := by simpa using hbk.cell 3
  have HB := Lib.hid hbw
  clear hb1 CR hbw hbk
  go_wp2_with fail
  refine (CA.out _ HB.out).mono ?_
  rintro e w2 ⟨v2, rfl, HO2, HG2, HA2⟩
  have ho := HO2.out
  rw [Nat.zero_add, List.nil_append] at ho
  obtain ⟨A2, c2', rfl, hc2, hm2⟩ := own_sl ho
  have HO := Lib.hid ho
  have HB2 := Lib.hid (HB.out.grown HG2.out HB.out.size (fun g hg => by simp [Value.ownBlock] at hg))
  clear ho HO2 HG2 HA2 CA c0 c1 c2 c3
  go_wp2_with fail
  refine (clip_bytes A2 E.length c2' _ hc2 hm2).mono ?_
  rintro e w3 ⟨rfl, rfl⟩
  go_wp2_with fail
  exact bodyPost_ret (v := .tuple #[.slice A2 E.length E.length, .int .i64 0]) (by simp [results, Tryd.results32, go_sem]) rfl ⟨A2, rfl, Lib.hid (Seg.of_own HO.out), HB2.out⟩
end Go.Proofs.YthknkdphofjmhaaDoor.CbWrite
