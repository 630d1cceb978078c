/- Texts of my own, laid together: PrimLi, AppC, PrimBl. -/
import Derived.Test.YthknkdphofjmhaaDoorZga
import Derived.Test.YthknkdphofjmhaaDoorZg4
import Derived.Test.YthknkdphofjmhaaDoorCbList
import Derived.Deep.RegionHeld3
import Derived.Deep.DrawnRows
/- Small functions of sealing: Clip, the reference's list. -/
namespace Go.Proofs.YthknkdphofjmhaaDoor.Prim
open Go.RowKit Wd Cb Eid
set_option maxHeartbeats 1000000 in
theorem clip_any (A : Option Addr) (n c : Nat) (w : World) (h : n ≤ c) (hm : c ≤ maxLen) :
    Calls Tryd.prog 38 #[.slice A n c] w fun e w' => e = .returned (.slice A n n) ∧ w' = w := by
  unfold maxLen at hm
  go_enter Tryd.func38, Tryd.ntmps38
  have j0 : (0 : Int) ≤ (n : Int) := by omega
  have j1 : (n : Int) ≤ (c : Int) := by omega
  go_wp2_with fail
  go_ret
  exact ⟨rfl, rfl⟩
set_option maxHeartbeats 1000000 in
theorem list06_any (A : Option Addr) (n c : Nat) (w : World) :
    Calls Tryd.prog 61 #[.slice A n c] w fun e w' => e = .returned (.agg #[.int .i64 4, .int .u64 0, .slice none 0 0, .slice A n c]) ∧ Below w.heap.size w w' := by
  go_enter Tryd.func61, Tryd.ntmps61
  go_wp2_with fail
  exact bodyPost_ret (v := .agg #[.int .i64 4, .int .u64 0, .slice none 0 0, .slice A n c]) (by simp [results, Tryd.results61, go_sem]) rfl ⟨rfl, (Below.refl _ _).alloc (Nat.le_refl _) _⟩
end Go.Proofs.YthknkdphofjmhaaDoor.Prim
/- append onto a slice that is full (its length is its room): a new row. No program is named here. -/
namespace Go.Proofs.YthknkdphofjmhaaDoor.Wd
open Go.RowKit
section
variable {P : Program} (w : World)

theorem run_append_clip (t ty e : TypeId) (i : TypeInfo) (z : Value) (bytes : Nat) (ht : P.underlying t = some (.slice e)) (hi : P.info? e = some i) (hz : i.zero = some z)
    (size : Nat) (hsize : i.size = size) (hby : i.bytes = bytes)
    (lo up : Nat) (B : Option Addr) (n : Nat) (olds : List Value) (hn : 0 < olds.length) (hlo : olds.length = n * size) (ho : Cb.Seg w lo up B olds)
    (lo' up' : Nat) (A : Option Addr) (m c : Nat) (news : List Value) (hm0 : 0 < news.length) (hm : news.length = m * size) (hr : Cb.Seg w lo' up' A news)
    (h63 : n + m ≤ maxLen) (hbytes : (n + m) * bytes ≤ 140737488355328) :
    ∃ c' spare, (Builtin.append_ #[t, t] ty #[.slice B n n, .slice A m c]).run P w = .ok (.slice (some ⟨w.heap.size, 0, none⟩) (n + m) c') (w.drew.alloc (.cells (olds ++ news ++ spare).toArray e)) ∧ n + m ≤ c' ∧ c' ≤ maxLen := by
  subst hsize
  subst hby
  have hcells : ∀ {lo up : Nat} {A : Option Addr} {news : List Value}, 0 < news.length → Cb.Seg w lo up A news → ∃ ad : Addr, A = some ad ∧ ∀ j u, news[j]? = some u → w.cell? (ad.add j) = some u := by
    intro lo up A news h0 h
    obtain ⟨b, o, rfl, _, _, hc⟩ := h.at_ (k := 0) h0
    refine ⟨⟨b, o, none⟩, rfl, fun j u hu => ?_⟩
    obtain ⟨hj, _⟩ := List.getElem?_eq_some_iff.1 hu
    have hplain : (⟨b, o, none⟩ : Addr).add j = ⟨b, o + j, none⟩ := by unfold Addr.add; split <;> simp_all
    rw [hplain, hc j hj, hu]
  obtain ⟨b, rfl, hb⟩ := hcells hn ho
  obtain ⟨a, rfl, ha⟩ := hcells hm0 hr
  have hmp : 0 < m := by
    rcases Nat.eq_zero_or_pos m with rfl | h
    · rw [Nat.zero_mul] at hm; omega
    · exact h
  have hsm : n + m ≤ 9223372036854775807 := by simp only [maxLen] at h63; omega
  refine ⟨_, (Builtin.zeroCells z.cells (grownCap w (n + m) n e - (n + m))).toList, ?_, grownCap_ge w (n + m) n e, grownCap_le_maxLen w (n + m) n e h63⟩
  rw [run_append_grow (P := P) w t ty e i z ht hi hz b n n olds hlo hb a m c news hm ha (by omega) (by omega) (growslice_fits (by omega) hbytes)]
  congr 3
  apply Array.toList_inj.1
  simp

theorem wp_append_clip {o : Oper} {a : Act} {K : Act → World → Prop} {Q : Exit → Act → World → Prop} (s x : Operand) (t : TypeId)
    (ho : o.op = .call { callee := .builtin .append, args := #[s, x], argTypes := #[t, t] })
    (e : TypeId) (i : TypeInfo) (z : Value) (bytes : Nat) (ht : P.underlying t = some (.slice e)) (hi : P.info? e = some i) (hz : i.zero = some z)
    (size : Nat) (hsize : i.size = size) (hby : i.bytes = bytes)
    (lo up : Nat) (B : Option Addr) (n : Nat) (olds : List Value) (hs : a.eval s = .slice B n n) (hn : 0 < olds.length) (hlo : olds.length = n * size) (hol : Cb.Seg w lo up B olds)
    (lo' up' : Nat) (A : Option Addr) (m c : Nat) (news : List Value) (hx : a.eval x = .slice A m c) (hm0 : 0 < news.length) (hm : news.length = m * size) (hr : Cb.Seg w lo' up' A news)
    (h63 : n + m ≤ maxLen) (hbytes : (n + m) * bytes ≤ 140737488355328)
    (h : ∀ c' spare, n + m ≤ c' → c' ≤ maxLen → K (a.put o.dst (.slice (some ⟨w.heap.size, 0, none⟩) (n + m) c')) (w.drew.alloc (.cells (olds ++ news ++ spare).toArray e))) : o.wp P a w K Q := by
  obtain ⟨c', sp, hrun, h2, h3⟩ := run_append_clip (P := P) w t o.type e i z bytes ht hi hz size hsize hby lo up B n olds hn hlo hol lo' up' A m c news hm0 hm hr h63 hbytes
  unfold Oper.wp execOp
  simp only [ho, resolve, invoke, builtin, Sem.run_bind, Sem.run_pure, Result.andThen_ok, List.map_toArray, List.map_cons, List.map_nil, hs, hx, hrun]
  exact h c' sp h2 h3

theorem step_append_clip {ops : Array Oper} {o : Oper} {a : Act} {K : Act → World → Prop} {Q : Exit → Act → World → Prop} {E : Prop} (hgd : o.guard = none) (s x : Operand) (t : TypeId)
    (ho : o.op = .call { callee := .builtin .append, args := #[s, x], argTypes := #[t, t] })
    (e : TypeId) (i : TypeInfo) (z : Value) (bytes : Nat) (ht : P.underlying t = some (.slice e)) (hi : P.info? e = some i) (hz : i.zero = some z)
    (size : Nat) (hsize : i.size = size) (hby : i.bytes = bytes)
    (lo up : Nat) (B : Option Addr) (n : Nat) (olds : List Value) (hs : a.eval s = .slice B n n) (hn : 0 < olds.length) (hlo : olds.length = n * size) (hol : Cb.Seg w lo up B olds)
    (lo' up' : Nat) (A : Option Addr) (m c : Nat) (news : List Value) (hx : a.eval x = .slice A m c) (hm0 : 0 < news.length) (hm : news.length = m * size) (hr : Cb.Seg w lo' up' A news)
    (h63 : n + m ≤ maxLen) (hbytes : (n + m) * bytes ≤ 140737488355328)
    (h : ∀ c' spare, n + m ≤ c' → c' ≤ maxLen → K (a.put o.dst (.slice (some ⟨w.heap.size, 0, none⟩) (n + m) c')) (w.drew.alloc (.cells (olds ++ news ++ spare).toArray e))) :
    if Region.wanted o (yielded ops a.tmps) = true then Oper.wp P o a w K Q else E := by
  rw [if_pos (by simp [Region.wanted, hgd])]
  exact wp_append_clip w s x t ho e i z bytes ht hi hz size hsize hby lo up B n olds hs hn hlo hol lo' up' A m c news hx hm0 hm hr h63 hbytes h
end
end Go.Proofs.YthknkdphofjmhaaDoor.Wd
/- Items with noughts behind them, where a sum will stand: the walk of blank. -/
namespace Go.Proofs.YthknkdphofjmhaaDoor.Prim
open Go.RowKit Wd Cb Eid CbCopy CbList

theorem blank_items {w W W3 W4 : World} {l : List Itm} {vs spare : List Value} {A2 : Option Addr} {k : Nat} (hr : Reps w 0 w.heap.size l vs) (hb : Below w.heap.size w W) (hs : Seg W w.heap.size W.heap.size A2 (u8s (zeros k))) (hk : k ≤ 1000)
    (o : Obj) (h3 : W3 = W.alloc o) (h4 : W4 = W3.drew.alloc (.cells (vs ++ [Value.int .i64 2, .int .u64 0, .slice A2 k k, .slice none 0 0] ++ spare).toArray 26)) :
    ItemsV W4 0 W4.heap.size (l ++ [.mk 2 0 (zeros k) []]) (some ⟨W.heap.size + 1, 0, none⟩) ∧ Below w.heap.size w W4 := by
  subst h3
  have hz := hb.size
  have h34 : Below W.heap.size W W4 := by
    subst h4
    exact (((Below.refl W.heap.size W).alloc (Nat.le_refl _) o).drew).alloc (by simp) _
  have hsz : W4.heap.size = W.heap.size + 2 := by subst h4; simp
  have hw := below_next hb hz h34
  refine ⟨?_, hw⟩
  have hkl : (zeros k).length = k := by simp [zeros]
  have hbt : St.bts (zeros k) := fun x hx => by
    have := List.eq_of_mem_replicate hx
    omega
  have r1 : Reps W4 0 W4.heap.size l vs := (hr.below hw).more (Nat.le_refl _) (by omega)
  have s2 : Seg W4 0 W4.heap.size A2 (u8s (zeros k)) := (hs.below h34).more (Nat.zero_le _) (by omega)
  have r2 : Rep W4 0 W4.heap.size (.mk 2 0 (zeros k) []) [Value.int .i64 2, .int .u64 0, .slice A2 k k, .slice none 0 0] := by
    have h := Rep.mk (k := 2) (n := 0) (b := zeros k) (l := []) (A' := none) (c' := 0) ⟨by omega, by omega⟩ ⟨by omega, by omega⟩ hbt (Nat.le_refl _) (by rw [hkl]; unfold maxLen; omega) s2 (Nat.le_refl _) (by unfold maxLen; omega) ItemsV.nil
    rw [hkl] at h
    exact h
  refine ⟨vs ++ [Value.int .i64 2, .int .u64 0, .slice A2 k k, .slice none 0 0], .inr ⟨W.heap.size + 1, 0, rfl, Nat.zero_le _, by omega, fun j hj => ?_⟩, r1.append (Reps.one r2)⟩
  have hblk : Blk W4 (W.heap.size + 1) 26 (vs ++ [Value.int .i64 2, .int .u64 0, .slice A2 k k, .slice none 0 0] ++ spare).toArray := by
    subst h4
    have := Blk.new ((W.alloc o).drew) 26 (vs ++ [Value.int .i64 2, .int .u64 0, .slice A2 k k, .slice none 0 0] ++ spare).toArray
    have e : (W.alloc o).drew.heap.size = W.heap.size + 1 := by simp
    rwa [e] at this
  rw [Nat.zero_add, hblk.cell]
  rw [List.getElem?_toArray, List.getElem?_append_left hj]

set_option maxHeartbeats 1000000 in
theorem blank_none (A : Option Addr) (n c : Nat) (w : World) :
    Calls Tryd.prog 31 #[.slice A n c, .int .i64 0] w fun e w' => e = .returned (.slice A n c) ∧ w = w' := by
  go_enter Tryd.func31, Tryd.ntmps31
  go_wp2_with fail
  go_ret
  exact ⟨rfl, rfl⟩
theorem Seg.of_blk {w : World} {g : Nat} {t : TypeId} {cs : Array Value} (h : Blk w g t cs) {hi : Nat} (hh : g < hi) : Seg w 0 hi (some ⟨g, 0, none⟩) cs.toList := .inr ⟨g, 0, rfl, Nat.zero_le _, hh, fun j _ => by rw [Nat.zero_add, h.cell]; simp⟩

set_option maxRecDepth 100000 in
set_option maxHeartbeats 4000000 in
theorem blank_2 (l : List Itm) (A : Option Addr) (B c : Nat) (w : World) (hv : ItemsV w 0 B l A) (hB : B ≤ w.heap.size) (hl : 0 < l.length) (hc : l.length ≤ c) (hm : c ≤ maxLen) (hs : l.length ≤ 1000000000) :
    Calls Tryd.prog 31 #[.slice A l.length c, .int .i64 2] w fun e w' =>
      ∃ A' c', e = .returned (.slice A' (l.length + 1) c') ∧ (l.length + 1 ≤ c' ∧ c' ≤ maxLen) ∧ Hid (ItemsV w' 0 w'.heap.size (l ++ [.mk 2 0 (zeros 2) []]) A') ∧ Below w.heap.size w w' := by
  obtain ⟨i0, hi0, hz0, hz1, hz2⟩ := info_parts info_item
  have hmk : ∀ w, (Instr.makeSlice 23 (.int .i64 2) (.int .i64 2)).run Tryd.prog w = .ok (.slice (some ⟨w.heap.size, 0, none⟩) 2 2) (w.alloc (.cells #[.int .u8 0, .int .u8 0] 5)) := fun _ => by kernel_rfl
  obtain ⟨vs, hseg, hreps⟩ := hv
  have hvl := hreps.length
  have hpos : 0 < vs.length := by omega
  have HS := Lib.hid ((hseg.more (Nat.le_refl _) hB))
  have HR := Lib.hid ((hreps.more (Nat.le_refl _) hB))
  have HVL := Lib.hid hvl
  have HM : l.length + 1 ≤ maxLen := by unfold maxLen; omega
  have HBd := Lib.hid (Below.refl w.heap.size w).drew
  have HB1 := Lib.hid (((Below.refl w.heap.size w).alloc (Nat.le_refl _) (.cells #[.int .u8 0, .int .u8 0] 5)).drew)
  have HL1 : Hid (Lst (w.alloc (.cells #[.int .u8 0, .int .u8 0] 5)).drew (w.heap.size + 1) (some ⟨w.heap.size, 0, none⟩) (u8s (zeros 2))) := Lib.hid (Lst.keep (w := w.alloc (.cells #[.int .u8 0, .int .u8 0] 5)) (Lst.lit w #[.int .u8 0, .int .u8 0] 5) fun _ _ => rfl)
  have CB := Lib.hid (show Calls Tryd.prog 41 #[.slice (some ⟨w.heap.size, 0, none⟩) 2 2] (w.alloc (.cells #[.int .u8 0, .int .u8 0] 5)).drew (fun e w' => ∃ A', e = .returned (.agg #[.int .i64 2, .int .u64 0, .slice A' 2 2, .slice none 0 0]) ∧ Hid (Seg w' (w.alloc (.cells #[.int .u8 0, .int .u8 0] 5)).drew.heap.size w'.heap.size A' (u8s (zeros 2))) ∧ Below (w.alloc (.cells #[.int .u8 0, .int .u8 0] 5)).drew.heap.size (w.alloc (.cells #[.int .u8 0, .int .u8 0] 5)).drew w') from
    bytes_any (some ⟨w.heap.size, 0, none⟩) (w.heap.size + 1) 2 (zeros 2) (w.alloc (.cells #[.int .u8 0, .int .u8 0] 5)).drew HL1.out (by simp) (by simp [zeros]))
  have CC := Lib.hid (fun W => clip_items A l.length c W hc hm)
  clear hseg hreps hvl hB hm
  go_enter Tryd.func31, Tryd.ntmps31
  go_wp2_with fail
  go_region_held3 (fun _ => True)
    (trivial)
    (first | (go_at_call 38; (with_reducible refine (CC.out _).mono ?_); rintro e wC ⟨rfl, rfl⟩) | (go_at_call 41; (with_reducible refine CB.out.mono ?_); rintro e w2 ⟨A2, rfl, HS2, hb2⟩; have HB2 := Lib.hid (below_next HB1.out HB1.out.size hb2); have HS2' := Lib.hid (HS2.out.more (lo' := w.heap.size) (by simp) (Nat.le_refl _)); clear hb2 HS2) | (refine step_append_clip _ (by rfl) (.tmp 9) (.tmp 13) _ (by rfl) 26 i0 _ 64 Tryd.underlying24 hi0 hz0 4 hz1 hz2 0 w.heap.size A l.length vs (by rfl) hpos HVL.out ((HS.out.below HB2.out).alloc HB2.out.size _) 0 (w2.heap.size + 1) (some ⟨w2.heap.size, 0, none⟩) 1 1 [Value.int .i64 2, .int .u64 0, .slice A2 2 2, .slice none 0 0] (by rfl) (by simp) rfl (Seg.of_blk (Blk.new w2 26 #[Value.int .i64 2, .int .u64 0, .slice A2 2 2, .slice none 0 0]) (by simp)) HM (by omega) ?_; intro c' spare hc1 hc2) | fail)
  all_goals
    go_wp2_with fail
    go_ret
    obtain ⟨hI, hW⟩ := blank_items (k := 2) (spare := spare) HR.out HB2.out HS2'.out (by omega) (.cells #[Value.int .i64 2, .int .u64 0, .slice A2 2 2, .slice none 0 0] 26) rfl rfl
    exact ⟨_, c', rfl, ⟨hc1, hc2⟩, Lib.hid hI, hW⟩

set_option maxRecDepth 100000 in
set_option maxHeartbeats 4000000 in
theorem blank_4 (l : List Itm) (A : Option Addr) (B c : Nat) (w : World) (hv : ItemsV w 0 B l A) (hB : B ≤ w.heap.size) (hl : 0 < l.length) (hc : l.length ≤ c) (hm : c ≤ maxLen) (hs : l.length ≤ 1000000000) :
    Calls Tryd.prog 31 #[.slice A l.length c, .int .i64 4] w fun e w' =>
      ∃ A' c', e = .returned (.slice A' (l.length + 1) c') ∧ (l.length + 1 ≤ c' ∧ c' ≤ maxLen) ∧ Hid (ItemsV w' 0 w'.heap.size (l ++ [.mk 2 0 (zeros 4) []]) A') ∧ Below w.heap.size w w' := by
  obtain ⟨i0, hi0, hz0, hz1, hz2⟩ := info_parts info_item
  have hmk : ∀ w, (Instr.makeSlice 23 (.int .i64 4) (.int .i64 4)).run Tryd.prog w = .ok (.slice (some ⟨w.heap.size, 0, none⟩) 4 4) (w.alloc (.cells #[.int .u8 0, .int .u8 0, .int .u8 0, .int .u8 0] 5)) := fun _ => by kernel_rfl
  obtain ⟨vs, hseg, hreps⟩ := hv
  have hvl := hreps.length
  have hpos : 0 < vs.length := by omega
  have HS := Lib.hid ((hseg.more (Nat.le_refl _) hB))
  have HR := Lib.hid ((hreps.more (Nat.le_refl _) hB))
  have HVL := Lib.hid hvl
  have HM : l.length + 1 ≤ maxLen := by unfold maxLen; omega
  have HBd := Lib.hid (Below.refl w.heap.size w).drew
  have HB1 := Lib.hid (((Below.refl w.heap.size w).alloc (Nat.le_refl _) (.cells #[.int .u8 0, .int .u8 0, .int .u8 0, .int .u8 0] 5)).drew)
  have HL1 : Hid (Lst (w.alloc (.cells #[.int .u8 0, .int .u8 0, .int .u8 0, .int .u8 0] 5)).drew (w.heap.size + 1) (some ⟨w.heap.size, 0, none⟩) (u8s (zeros 4))) := Lib.hid (Lst.keep (w := w.alloc (.cells #[.int .u8 0, .int .u8 0, .int .u8 0, .int .u8 0] 5)) (Lst.lit w #[.int .u8 0, .int .u8 0, .int .u8 0, .int .u8 0] 5) fun _ _ => rfl)
  have CB := Lib.hid (show Calls Tryd.prog 41 #[.slice (some ⟨w.heap.size, 0, none⟩) 4 4] (w.alloc (.cells #[.int .u8 0, .int .u8 0, .int .u8 0, .int .u8 0] 5)).drew (fun e w' => ∃ A', e = .returned (.agg #[.int .i64 2, .int .u64 0, .slice A' 4 4, .slice none 0 0]) ∧ Hid (Seg w' (w.alloc (.cells #[.int .u8 0, .int .u8 0, .int .u8 0, .int .u8 0] 5)).drew.heap.size w'.heap.size A' (u8s (zeros 4))) ∧ Below (w.alloc (.cells #[.int .u8 0, .int .u8 0, .int .u8 0, .int .u8 0] 5)).drew.heap.size (w.alloc (.cells #[.int .u8 0, .int .u8 0, .int .u8 0, .int .u8 0] 5)).drew w') from
    bytes_any (some ⟨w.heap.size, 0, none⟩) (w.heap.size + 1) 4 (zeros 4) (w.alloc (.cells #[.int .u8 0, .int .u8 0, .int .u8 0, .int .u8 0] 5)).drew HL1.out (by simp) (by simp [zeros]))
  have CC := Lib.hid (fun W => clip_items A l.length c W hc hm)
  clear hseg hreps hvl hB hm
  go_enter Tryd.func31, Tryd.ntmps31
  go_wp2_with fail
  go_region_held3 (fun _ => True)
    (trivial)
    (first | (go_at_call 38; (with_reducible refine (CC.out _).mono ?_); rintro e wC ⟨rfl, rfl⟩) | (go_at_call 41; (with_reducible refine CB.out.mono ?_); rintro e w2 ⟨A2, rfl, HS2, hb2⟩; have HB2 := Lib.hid (below_next HB1.out HB1.out.size hb2); have HS2' := Lib.hid (HS2.out.more (lo' := w.heap.size) (by simp) (Nat.le_refl _)); clear hb2 HS2) | (refine step_append_clip _ (by rfl) (.tmp 9) (.tmp 13) _ (by rfl) 26 i0 _ 64 Tryd.underlying24 hi0 hz0 4 hz1 hz2 0 w.heap.size A l.length vs (by rfl) hpos HVL.out ((HS.out.below HB2.out).alloc HB2.out.size _) 0 (w2.heap.size + 1) (some ⟨w2.heap.size, 0, none⟩) 1 1 [Value.int .i64 2, .int .u64 0, .slice A2 4 4, .slice none 0 0] (by rfl) (by simp) rfl (Seg.of_blk (Blk.new w2 26 #[Value.int .i64 2, .int .u64 0, .slice A2 4 4, .slice none 0 0]) (by simp)) HM (by omega) ?_; intro c' spare hc1 hc2) | fail)
  all_goals
    go_wp2_with fail
    go_ret
    obtain ⟨hI, hW⟩ := blank_items (k := 4) (spare := spare) HR.out HB2.out HS2'.out (by omega) (.cells #[Value.int .i64 2, .int .u64 0, .slice A2 4 4, .slice none 0 0] 26) rfl rfl
    exact ⟨_, c', rfl, ⟨hc1, hc2⟩, Lib.hid hI, hW⟩
end Go.Proofs.YthknkdphofjmhaaDoor.Prim
