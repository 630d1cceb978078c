/- The fixed calls of layer 3's statements. -/
import Derived.Test.YtoieadbifhealaaDoorAliveP
import Derived.Test.YtoieadbifhealaaDoorCbShort
import Derived.Test.YtoieadbifhealaaDoorCbList
import Derived.Test.YtoieadbifhealaaDoorCbCopy
import Derived.ArgAppend
namespace Go.Proofs.YtoieadbifhealaaDoor.Alive03
open Go.RowKit Wd Cb CbCopy CbRight CbWrite CbHead CbPiece CbBytes U8V CbList CbOpen CbMany CbItem CbBody CbRead CbSame CbShort

/-- append onto a slice that has no room, whatever the guard, if it holds. -/
theorem wpList_append_more {P : Program} (w : World) {ops : Array Oper} {rest : List Oper} {o : Oper} {a : Act} {Q : Exit → Act → World → Prop}
    (hw : Region.wanted o (yielded ops a.tmps) = true) (s x : Operand) (t : TypeId) (hop : o.op = Op.call { callee := Callee.builtin Builtin.append, args := #[s, x], argTypes := #[t, t] })
    (e : TypeId) (i : TypeInfo) (z : Value) (size bytes : Nat) (h1 : P.underlying t = some (.slice e)) (h2 : P.info? e = some i) (h3 : i.zero = some z) (h4 : i.size = size) (h5 : i.bytes = bytes) (h6 : z.cells.size = size) (h7 : 0 < size)
    (b : Addr) (n cap : Nat) (olds : List Value) (hs : a.eval s = .slice (some b) n cap) (hlo : olds.length = n * size) (holds : ∀ j u, olds[j]? = some u → w.cell? (b.add j) = some u)
    (ad : Addr) (m c : Nat) (news : List Value) (hx : a.eval x = .slice (some ad) m c) (hn : news.length = m * size) (hc : ∀ j u, news[j]? = some u → w.cell? (ad.add j) = some u)
    (hfull : cap < n + m) (b1 : n + m ≤ maxLen) (b2 : (n + m) * bytes ≤ 140737488355328)
    (hK : ∀ v' w', w'.ownsRow w.heap.size e size v' (n + m) (olds ++ news) → w.grownBy w' none → wpList P ops Q rest (a.put o.dst v') w') :
    wpList P ops Q (o :: rest) a w := by
  refine wpList_step fun K hK' => ?_
  rw [if_pos hw]
  obtain ⟨v', w', hrun, r1, r2⟩ := run_append_arg_grows (P := P) w t o.type e i z size bytes h1 h2 h3 h4 h5 h6 h7 b n cap olds hlo holds ad m c news hn hc hfull b1 b2
  unfold Oper.wp
  simp [execOp, hop, resolve, invoke, builtin, hs, hx, hrun, Result.andThen]
  exact hK' _ _ (hK v' w' r1 r2)

theorem items0 (w : World) (A : Option Addr) (hs : Seg w 0 w.heap.size A (u8s (nums ⟨#[97, 98]⟩))) :
    ItemsV (w.alloc (.cells #[.int .i64 0, .int .u64 1, .slice none 0 0, .slice none 0 0, .int .i64 3, .int .u64 0, .slice A 2 2, .slice none 0 0] 26)) 0 (w.heap.size + 1) x0.sub (some ⟨w.heap.size, 0, none⟩) := by
  have hb := (Below.refl w.heap.size w).alloc (Nat.le_refl _) (.cells #[.int .i64 0, .int .u64 1, .slice none 0 0, .slice none 0 0, .int .i64 3, .int .u64 0, .slice A 2 2, .slice none 0 0] 26)
  refine ⟨_, Seg.of_lst (Lst.lit w #[.int .i64 0, .int .u64 1, .slice none 0 0, .slice none 0 0, .int .i64 3, .int .u64 0, .slice A 2 2, .slice none 0 0] 26), ?_⟩
  have r1 : Rep (w.alloc (.cells #[.int .i64 0, .int .u64 1, .slice none 0 0, .slice none 0 0, .int .i64 3, .int .u64 0, .slice A 2 2, .slice none 0 0] 26)) 0 (w.heap.size + 1) (.mk 0 1 [] []) [.int .i64 0, .int .u64 1, .slice none 0 0, .slice none 0 0] :=
    Rep.mk (b := []) (l := []) (by omega) (by omega) (by intro x hx; cases hx) (Nat.le_refl _) (by simp) .nil (Nat.le_refl _) (by simp) .nil
  have r2 : Rep (w.alloc (.cells #[.int .i64 0, .int .u64 1, .slice none 0 0, .slice none 0 0, .int .i64 3, .int .u64 0, .slice A 2 2, .slice none 0 0] 26)) 0 (w.heap.size + 1) (.mk 3 0 [97, 98] []) [.int .i64 3, .int .u64 0, .slice A 2 2, .slice none 0 0] :=
    Rep.mk (b := [97, 98]) (l := []) (by omega) (by omega) (by intro x hx; simp at hx; omega) (Nat.le_refl _) (by simp [maxLen]) ((hs.below hb).more (Nat.le_refl _) (by omega)) (Nat.le_refl _) (by simp) .nil
  unfold x0 Itm.sub Reps
  refine ⟨[.int .i64 0, .int .u64 1, .slice none 0 0, .slice none 0 0], [.int .i64 3, .int .u64 0, .slice A 2 2, .slice none 0 0], rfl, r1, ?_⟩
  exact Reps.one r2

theorem plain_add (b o j : Nat) : (⟨b, o, none⟩ : Addr).add j = ⟨b, o + j, none⟩ := by unfold Addr.add; split <;> simp_all

theorem ItemV_four {w : World} {lo hi : Nat} {x : Itm} {v : Value} (h : ItemV w lo hi x v) : ∃ k n A b c A' b' c', v = .agg #[.int .i64 k, .int .u64 n, .slice A b c, .slice A' b' c'] := by
  obtain ⟨A, c, A', c', rfl, -⟩ := h.open_
  exact ⟨_, _, _, _, _, _, _, _, rfl⟩

/-- What is read is the one answer there is. -/
theorem read_the (A : Option Addr) (B c n : Nat) (xs : List Int) (p : Int) (w : World) (hn : xs.length = n) (hs : Lst w B A (u8s xs)) (hB : B ≤ w.heap.size) (hx : St.bts xs) (hc : n ≤ c) (hm : c ≤ maxLen) (hl : n ≤ 100000000000) (hT : Tabs w) (r : Res Itm) (hr : ReadR xs p r) :
    Calls Tryd.prog 21 #[.slice A n c, .int .i64 p] w fun e w' => ROut w e w' r := by
  subst hn
  refine (read_any A B c xs p w hs hB hx hc hm hl hT).mono ?_
  rintro e w' ⟨r', hr', ho⟩
  rw [read_det hr hr']
  exact ho

/-- The same of Shortest. -/
def shortOf (xs : List Int) : Res Itm → Bool
  | .ok x _ _ => xs == enc x
  | .err _ => false
theorem shortest_the (A : Option Addr) (B c n : Nat) (xs : List Int) (w : World) (hn : xs.length = n) (hs : Lst w B A (u8s xs)) (hB : B ≤ w.heap.size) (hx : St.bts xs) (hc : n ≤ c) (hm : c ≤ maxLen) (hl : n ≤ 4294967295) (hT : Tabs w) (r : Res Itm) (hr : ReadR xs 0 r) :
    Calls Tryd.prog 22 #[.slice A n c] w fun e w' => e = .returned (.bool (shortOf xs r)) ∧ Below w.heap.size w w' := by
  subst hn
  refine (shortest_any A B c xs w hs hB hx hc hm hl hT).mono ?_
  rintro e w' ⟨b, he, hb, ho⟩
  refine ⟨?_, hb⟩
  rcases ho.out with ⟨x, p, l, hr', h2⟩ | ⟨⟨k, hr'⟩, h2⟩
  · rw [read_det hr hr', he, h2]
    rfl
  · rw [read_det hr hr', he, h2]
    rfl

set_option maxRecDepth 100000 in
set_option maxHeartbeats 1000000 in
theorem alive_any (w : World) (hT : Tabs w) : Calls Tryd.prog 13 #[] w fun e w' => e = .returned (.bool true) ∧ Below w.heap.size w w' := by
  have HT := Lib.hid hT
  clear hT
  go_enter Tryd.func13, Tryd.ntmps13
  go_wp2_with fail
  refine (num_any 1 w (by omega) (by omega)).mono ?_
  rintro e w1 ⟨rfl, hb1⟩
  have HB1 := Lib.hid hb1
  clear hb1
  go_wp2_with fail
  refine (text_any ⟨#[97, 98]⟩ w1 (by decide)).mono ?_
  rintro e w2 ⟨A2, rfl, HS2, hb2⟩
  have HB2 := Lib.hid (below_next HB1.out HB1.out.size hb2)
  have hl : (nums ⟨#[97, 98]⟩).length = 2 := rfl
  rw [hl]
  have hi0 := items0 w2 A2 (HS2.out.more (Nat.zero_le _) (Nat.le_refl _))
  have HI0 := Lib.hid hi0
  have HB2a := Lib.hid (HB2.out.alloc HB2.out.size (.cells #[.int .i64 0, .int .u64 1, .slice none 0 0, .slice none 0 0, .int .i64 3, .int .u64 0, .slice A2 2 2, .slice none 0 0] 26))
  clear hb2 hl hi0 HS2
  go_wp2_with fail
  refine (CbList.list_any x0.sub _ (w2.heap.size + 1) 2 _ HI0.out (by simp) (by decide) (by decide) (by decide) (by decide) (by decide)).mono ?_
  rintro e w3 ⟨A3, rfl, HI3, hb3⟩
  have HB3 := Lib.hid (below_next HB2a.out HB2a.out.size hb3)
  have hv3 : ItemV w3 0 w3.heap.size x0 (.agg #[.int .i64 4, .int .u64 0, .slice none 0 0, .slice A3 x0.sub.length x0.sub.length]) :=
    ItemV.mk (k := 4) (n := 0) (b := []) (l := x0.sub) (by omega) (by omega) (by intro x hx; cases hx) (Nat.le_refl _) (by simp) .nil (Nat.le_refl _) (by decide) (HI3.out.more (Nat.zero_le _) (Nat.le_refl _))
  have CW := Lib.hid (write_yes x0 _ w3.heap.size w3 hv3 (Nat.le_refl _) (HT.out.below HB3.out (Nat.le_refl _)) right0 (by decide))
  have hl : x0.sub.length = 2 := rfl
  rw [hl] at CW
  rw [hl]
  clear hb3 hv3 HI3 HI0 HB2a HB1 HB2 hl
  go_wp2_with fail
  refine CW.out.mono ?_
  rintro e w4 ⟨A4, rfl, HS4, hb4⟩
  have HB4 := Lib.hid (below_next HB3.out HB3.out.size hb4)
  have hs4 := HS4.out
  rw [enc0] at hs4 ⊢
  have HS4' := Lib.hid hs4
  clear hb4 hs4 HS4 CW HB3
  simp only [List.length_cons, List.length_nil, Nat.zero_add, Nat.reduceAdd]
  go_wp2_with fail
  refine (read_the _ (w4.heap.size + 1) 11 11 [159, 24, 1, 127, 97, 97, 97, 98, 255, 255, 9] 0 _ rfl (Lst.lit w4 _ 5) (by simp) (by intro x hx; simp at hx; omega) (by decide) (by decide) (by decide) ((HT.out.below HB4.out (Nat.le_refl _)).below ((Below.refl _ _).alloc (Nat.le_refl _) _) (Nat.le_refl _)) _ read1).mono ?_
  rintro e w5 ⟨v5, rfl, HI5, hb5⟩
  have HB45 := Lib.hid (below_box (Below.refl w4.heap.size w4) (Nat.le_refl _) hb5.out)
  clear hb5
  obtain ⟨k5, n5, A5, b5, c5, A6, b6, c6, rfl⟩ := ItemV_four HI5.out
  have hn5 : w4.heap.size ≤ w5.heap.size := HB45.out.size
  have HV5 := Lib.hid ((HI5.out.more (Nat.zero_le _) (Nat.le_refl _)).alloc (Nat.le_refl _) (.cells #[.int .i64 k5, .int .u64 n5, .slice A5 b5 c5, .slice A6 b6 c6] 26))
  have HK5 := Lib.hid (Blk.new w5 26 #[.int .i64 k5, .int .u64 n5, .slice A5 b5 c5, .slice A6 b6 c6])
  have HB5 := Lib.hid (HB45.out.alloc hn5 (.cells #[.int .i64 k5, .int .u64 n5, .slice A5 b5 c5, .slice A6 b6 c6] 26))
  have HT5 := Lib.hid ((HT.out.below HB4.out (Nat.le_refl _)).below HB5.out (Nat.le_refl _))
  have HLt := Lib.hid (Lst.lit (w5.alloc (.cells #[.int .i64 k5, .int .u64 n5, .slice A5 b5 c5, .slice A6 b6 c6] 26)) #[.int .u8 130, .int .u8 1] 5)
  have HTt := Lib.hid (HT5.out.below ((Below.refl _ _).alloc (Nat.le_refl _) (.cells #[.int .u8 130, .int .u8 1] 5)) (Nat.le_refl _))
  simp only [World.size_alloc] at HLt
  clear HB45 HI5 HT
  go_wp2_with fail
  refine (read_the _ (w5.heap.size + 1 + 1) 2 2 [130, 1] 0 _ rfl HLt.out (by simp) (by intro x hx; simp at hx; omega) (by decide) (by decide) (by decide) HTt.out _ read2).mono ?_
  clear HLt HTt
  rintro e w6 ⟨rfl, hb6⟩
  have HB6 := Lib.hid (below_box (Below.refl _ _) (Nat.le_refl _) hb6.out)
  clear hb6
  go_wp2_with fail
  have HK6 := Lib.hid (HK5.out.next HB6.out)
  have HV6 := Lib.hid (HV5.out.below (HB6.out.mono (by simp)))
  have HB6' := Lib.hid (below_next HB5.out (by simp; omega) HB6.out)
  have hn6 : w5.heap.size < w6.heap.size := HK6.out.lt
  have HT6 := Lib.hid (HT5.out.below HB6.out (Nat.le_refl _))
  have HLt := Lib.hid (Lst.lit (w6.alloc (.cells #[.int .i64 0, .int .u64 0, .slice none 0 0, .slice none 0 0] 26)) #[.int .u8 129, .int .u8 32] 5)
  have HTt := Lib.hid (HT6.out.below (((Below.refl w6.heap.size w6).alloc (Nat.le_refl _) (.cells #[.int .i64 0, .int .u64 0, .slice none 0 0, .slice none 0 0] 26)).alloc (by simp) (.cells #[.int .u8 129, .int .u8 32] 5)) (Nat.le_refl _))
  simp only [World.size_alloc] at HLt
  clear HK5 HV5 HB5 HB6 HT5
  refine (read_the _ (w6.heap.size + 1 + 1) 2 2 [129, 32] 0 _ rfl HLt.out (by simp) (by intro x hx; simp at hx; omega) (by decide) (by decide) (by decide) HTt.out _ read3).mono ?_
  clear HLt HTt
  rintro e w7 ⟨rfl, hb7⟩
  have HB7 := Lib.hid (below_box (below_box (Below.refl w6.heap.size w6) (Nat.le_refl _) (Below.refl _ _)) (by simp) hb7.out)
  clear hb7
  have HK7 := Lib.hid ((HK6.out.next HB7.out).alloc (.cells #[.int .i64 0, .int .u64 0, .slice none 0 0, .slice none 0 0] 26))
  have hn7 : w6.heap.size ≤ w7.heap.size := HB7.out.size
  have hn4 : w4.heap.size ≤ w6.heap.size := HB6'.out.size
  have HB7' := Lib.hid ((below_next HB6'.out hn4 HB7.out).alloc (by omega) (.cells #[.int .i64 0, .int .u64 0, .slice none 0 0, .slice none 0 0] 26))
  have HV7 := Lib.hid ((HV6.out.below (HB7.out.mono (by omega))).alloc (by omega) (.cells #[.int .i64 0, .int .u64 0, .slice none 0 0, .slice none 0 0] 26))
  have HT7 := Lib.hid ((HT6.out.below HB7.out (Nat.le_refl _)).below ((Below.refl w7.heap.size w7).alloc (Nat.le_refl _) (.cells #[.int .i64 0, .int .u64 0, .slice none 0 0, .slice none 0 0] 26)) (Nat.le_refl _))
  have q0 := HK7.out.cell 0
  have q1 := HK7.out.cell 1
  have q2 := HK7.out.cell 2
  have q3 := HK7.out.cell 3
  simp only [List.getElem?_toArray, List.getElem?_cons_zero, List.getElem?_cons_succ] at q0 q1 q2 q3
  clear HK6 HV6 HB6' HB7 HT6 HK7
  go_wp2_with fail
  have CW := Lib.hid (write_yes x0 _ w5.heap.size _ HV7.out (by simp; omega) HT7.out right0 (by decide))
  clear HV7
  refine CW.out.mono ?_
  rintro e w8 ⟨A8, rfl, HS8, hb8⟩
  have hs8 := HS8.out
  rw [enc0] at hs8 ⊢
  have HB8 := Lib.hid (below_next HB7'.out (by simp; omega) hb8)
  have HT8 := Lib.hid (HT7.out.below hb8 (Nat.le_refl _))
  have HS4 := Lib.hid (HS4'.out.below HB8.out)
  have hn8 : w4.heap.size ≤ w8.heap.size := HB8.out.size
  have hcb := run_string (P := Tryd.prog) HS4.out.lst 23 5 9 Tryd.underlying23 Tryd.underlying5 Tryd.underlying9 5
  have hcc := run_string (P := Tryd.prog) hs8.lst 23 5 9 Tryd.underlying23 Tryd.underlying5 Tryd.underlying9 5
  simp only [List.length_cons, List.length_nil, Nat.zero_add, Nat.reduceAdd] at hcb hcc ⊢
  rw [show strOfNums [130, 1, 98, 97, 98] = ⟨#[130, 1, 98, 97, 98]⟩ from by rfl] at hcb hcc
  clear hb8 hs8 CW HT7 HB7' q0 q1 q2 q3 HS4' hn5 hn6 hn7
  go_wp2_with fail
  have r0 := read0 []
  rw [List.append_nil] at r0
  refine (shortest_the A4 w8.heap.size 5 5 [130, 1, 98, 97, 98] w8 rfl (HS4.out.more (Nat.le_refl _) hn8).lst (Nat.le_refl _) (by intro x hx; simp at hx; omega) (by decide) (by decide) (by decide) HT8.out _ r0).mono ?_
  rintro e w9 ⟨rfl, hb9⟩
  rw [show shortOf [130, 1, 98, 97, 98] (.ok x0 5 253) = true from by decide]
  have HB9 := Lib.hid (below_next HB8.out hn8 hb9)
  have HT9 := Lib.hid (HT8.out.below hb9 (Nat.le_refl _))
  have hn9 : w8.heap.size ≤ w9.heap.size := hb9.size
  have HS9 := Lib.hid (HS4.out.below (hb9.mono hn8))
  obtain ⟨b4, o4, rfl, hl4, hh4, hc4⟩ := HS9.out.at_ (k := 0) (by simp [u8s])
  have HC4 := Lib.hid hc4
  clear hb9 r0 hc4 HS4 HS8 HB8 HT8 hcb hcc
  have HTz := Lib.hid (HT9.out.below ((Below.refl w9.heap.size w9).alloc (Nat.le_refl _) (.cells #[.int .u8 0] 5)) (Nat.le_refl _))
  have HLz := Lib.hid (Lst.lit w9 #[.int .u8 0] 5)
  obtain ⟨i0, z0, hi0, hz0, hz1, hz2, hz3⟩ : ∃ i z, Tryd.prog.info? 5 = some i ∧ i.zero = some z ∧ i.size = 1 ∧ z.cells.size = 1 ∧ i.bytes = 1 := ⟨_, _, rfl, rfl, rfl, rfl, rfl⟩
  go_wp2_with first
    | (at_builtin
       go_loud (refine wpList_append_more _ (by rfl) _ _ _ rfl 5 i0 z0 1 1 Tryd.underlying23 hi0 hz0 hz1 hz3 hz2 (by decide) _ 5 5 (u8s [130, 1, 98, 97, 98]) rfl rfl ?_ _ 1 1 [.int .u8 0] rfl rfl ?_ (by omega) (by decide) (by decide) ?_))
    | fail
  · intro j u hj
    have hlt : j < 5 := by rcases Nat.lt_or_ge j 5 with h | h; exact h; rw [List.getElem?_eq_none (by simpa [u8s] using h)] at hj; cases hj
    have hc := HC4.out j (by simpa [u8s] using hlt)
    rw [plain_add]
    exact ((((Below.refl w9.heap.size w9).alloc (Nat.le_refl _) (.cells #[.int .u8 0] 5)).cell (p := ⟨b4, o4 + j, none⟩) (by show b4 < w9.heap.size; omega)).trans hc).trans hj
  · intro j u hj
    have hb := (Blk.new w9 5 #[.int .u8 0]).cell j
    rw [plain_add, Nat.zero_add, hb]
    simpa using hj
  · intro v' w10 hown hg
    obtain ⟨A', c', rfl, hc1, hc2, -⟩ := own_slice hown
    have HO := Lib.hid hown
    have hb10 : Below (w9.heap.size + 1) (w9.alloc (.cells #[.int .u8 0] 5)) w10 := ⟨hg.os, hg.tape, hg.output, hg.size, fun i hi => hg.block i (by simpa using hi) (by simp)⟩
    have HT10 := Lib.hid (HTz.out.below hb10 (by simp))
    have HB10 := Lib.hid (below_next HB9.out (by omega) (((Below.refl w9.heap.size w9).alloc (Nat.le_refl _) (.cells #[.int .u8 0] 5)).trans (hb10.mono (by omega))))
    clear hown hg hb10
    go_wp2_with fail
    refine (shortest_the A' w10.heap.size c' 6 [130, 1, 98, 97, 98, 0] w10 rfl (Lst.of_own HO.out) (Nat.le_refl _) (by intro x hx; simp at hx; omega) hc1 hc2 (by decide) HT10.out _ (read0 [0])).mono ?_
    rintro e w11 ⟨rfl, hb11⟩
    rw [show shortOf [130, 1, 98, 97, 98, 0] (.ok x0 5 253) = false from by decide]
    have hn10 := HB10.out.size
    have HB11 := Lib.hid (below_next HB10.out hn10 hb11)
    clear hb11
    go_wp2_with fail
    go_ret
    exact ⟨rfl, below_next HB4.out HB4.out.size HB11.out⟩
end Go.Proofs.YtoieadbifhealaaDoor.Alive03
