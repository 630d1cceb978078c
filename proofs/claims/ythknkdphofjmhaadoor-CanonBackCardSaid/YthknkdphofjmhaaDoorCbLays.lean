/- A list that is made anew: its row is one block, each item's parts lie behind each other, bytes in blocks of their own. -/
import Derived.Test.YthknkdphofjmhaaDoorCbList
namespace Go.Proofs.YthknkdphofjmhaaDoor.CbLays
open Go.RowKit Wd Cb CbCopy CbList
attribute [local go_sem ↓] Go.wp_at_zero Go.wp_at_succ

/-- Bytes that are a block of their own, or none. -/
def OwnB (w : World) (lo hi : Nat) (A : Option Addr) (xs : List Int) : Prop :=
  xs = [] ∨ ∃ g cs, A = some ⟨g, 0, none⟩ ∧ lo ≤ g ∧ g < hi ∧ Blk w g 5 cs ∧ xs.length ≤ cs.size ∧ ∀ j, j < xs.length → cs[j]? = (u8s xs)[j]?
theorem OwnB.seg {w : World} {lo hi : Nat} {A : Option Addr} {xs : List Int} (h : OwnB w lo hi A xs) : Seg w lo hi A (u8s xs) := by
  rcases h with rfl | ⟨g, cs, rfl, h1, h2, h3, h4, h5⟩
  · exact .nil
  · exact .inr ⟨g, 0, rfl, h1, h2, fun j hj => by rw [Nat.zero_add, h3.cell]; exact h5 j (by simpa using hj)⟩
theorem OwnB.keep {w w' : World} {lo hi : Nat} {A : Option Addr} {xs : List Int} (h : OwnB w lo hi A xs) (hk : ∀ i, lo ≤ i → i < hi → w'.heap[i]? = w.heap[i]?) : OwnB w' lo hi A xs := by
  rcases h with rfl | ⟨g, cs, rfl, h1, h2, h3, h4⟩
  · exact .inl rfl
  · exact .inr ⟨g, cs, rfl, h1, h2, (hk g h1 h2).trans h3, h4⟩
theorem OwnB.more {w : World} {lo hi lo' hi' : Nat} {A : Option Addr} {xs : List Int} (h : OwnB w lo hi A xs) (h1 : lo' ≤ lo) (h2 : hi ≤ hi') : OwnB w lo' hi' A xs := by
  rcases h with rfl | ⟨g, cs, rfl, a1, a2, h3⟩
  · exact .inl rfl
  · exact .inr ⟨g, cs, rfl, by omega, by omega, h3⟩
theorem OwnB.of_own {w : World} {base n c : Nat} {A : Option Addr} {xs : List Int} (h : w.ownsRow base 5 1 (.slice A n c) n (u8s xs)) : OwnB w base w.heap.size A xs := by
  rcases h.2 with ⟨h', hn⟩ | ⟨g, cap', cur, h', a, b, c1, d, e, f⟩
  · have hl := h.1
    subst hn
    exact .inl (List.eq_nil_of_length_eq_zero (by simpa using hl))
  · injection h' with hA _ hc
    subst hA
    subst hc
    have hl : xs.length = n := by simpa using h.1
    have hz : n ≤ cur.size := by
      have := congrArg List.length f
      simp at this
      omega
    refine .inr ⟨g, cur, rfl, a, Blk.lt (t := 5) b, b, by omega, fun j hj => ?_⟩
    rw [← f]
    simp [hl ▸ hj]

/-- An item whose bytes are a block of their own. -/
def RepO (w : World) (lo hi : Nat) (x : Itm) (cs : List Value) : Prop :=
  ∃ A A', cs = [.int .i64 x.kind, .int .u64 x.num, .slice A x.bs.length x.bs.length, .slice A' x.sub.length x.sub.length] ∧
    (-9223372036854775808 ≤ x.kind ∧ x.kind ≤ 9223372036854775807) ∧ (0 ≤ x.num ∧ x.num ≤ 18446744073709551615) ∧ St.bts x.bs ∧ x.bs.length ≤ maxLen ∧ OwnB w lo hi A x.bs ∧ x.sub.length ≤ maxLen ∧ ItemsV w lo hi x.sub A'
theorem RepO.rep {w : World} {lo hi : Nat} {x : Itm} {cs : List Value} (h : RepO w lo hi x cs) : Rep w lo hi x cs := by
  obtain ⟨A, A', rfl, h1, h2, h3, h4, h5, h6, h7⟩ := h
  have := Rep.mk h1 h2 h3 (Nat.le_refl _) h4 h5.seg (Nat.le_refl _) h6 h7
  rwa [← eta] at this
theorem cells_of_blocks {w w' : World} {lo hi : Nat} (hk : ∀ i, lo ≤ i → i < hi → w'.heap[i]? = w.heap[i]?) : ∀ p : Addr, lo ≤ p.block → p.block < hi → w'.cell? p = w.cell? p := fun p h1 h2 => World.cell?_of_block (hk p.block h1 h2)
theorem RepO.keep {w w' : World} {lo hi : Nat} {x : Itm} {cs : List Value} (h : RepO w lo hi x cs) (hk : ∀ i, lo ≤ i → i < hi → w'.heap[i]? = w.heap[i]?) : RepO w' lo hi x cs := by
  obtain ⟨A, A', rfl, h1, h2, h3, h4, h5, h6, h7⟩ := h
  exact ⟨A, A', rfl, h1, h2, h3, h4, h5.keep hk, h6, h7.keep (cells_of_blocks hk)⟩
/-- Items, one behind the other, each one's parts behind those of the one ahead. -/
def Lays (w : World) : Nat → Nat → List Itm → List Value → Prop
  | lo, hi, [], vs => vs = [] ∧ lo ≤ hi
  | lo, hi, x :: l, vs => ∃ mid c r, vs = c ++ r ∧ lo ≤ mid ∧ RepO w lo mid x c ∧ Lays w mid hi l r
theorem Lays.le {w : World} : ∀ {l : List Itm} {lo hi : Nat} {vs : List Value}, Lays w lo hi l vs → lo ≤ hi
  | [], lo, hi, vs, h => by unfold Lays at h; exact h.2
  | x :: l, lo, hi, vs, h => by
    unfold Lays at h
    obtain ⟨mid, c, r, _, h1, _, h2⟩ := h
    exact Nat.le_trans h1 h2.le
theorem Lays.reps {w : World} : ∀ {l : List Itm} {lo hi : Nat} {vs : List Value}, Lays w lo hi l vs → Reps w lo hi l vs
  | [], lo, hi, vs, h => by unfold Lays at h; unfold Reps; exact h.1
  | x :: l, lo, hi, vs, h => by
    unfold Lays at h
    obtain ⟨mid, c, r, h0, h1, h2, h3⟩ := h
    unfold Reps
    exact ⟨c, r, h0, h2.rep.more (Nat.le_refl _) h3.le, h3.reps.more h1 (Nat.le_refl _)⟩
theorem Lays.keep {w w' : World} : ∀ {l : List Itm} {lo hi : Nat} {vs : List Value}, Lays w lo hi l vs → (∀ i, lo ≤ i → i < hi → w'.heap[i]? = w.heap[i]?) → Lays w' lo hi l vs
  | [], lo, hi, vs, h, _ => by unfold Lays at h ⊢; exact h
  | x :: l, lo, hi, vs, h, hk => by
    unfold Lays at h ⊢
    obtain ⟨mid, c, r, h0, h1, h2, h3⟩ := h
    have := h3.le
    exact ⟨mid, c, r, h0, h1, h2.keep fun i a b => hk i a (by omega), h3.keep fun i a b => hk i (by omega) b⟩
theorem Lays.below {w w' : World} {l : List Itm} {lo hi B : Nat} {vs : List Value} (h : Lays w lo hi l vs) (hb : Below B w w') (hB : hi ≤ B) : Lays w' lo hi l vs := h.keep fun i _ h2 => hb.block i (by omega)
theorem Lays.up {w : World} : ∀ {l : List Itm} {lo hi hi' : Nat} {vs : List Value}, Lays w lo hi l vs → l = [] → hi ≤ hi' → Lays w lo hi' l vs
  | [], lo, hi, hi', vs, h, _, h2 => by unfold Lays at h ⊢; exact ⟨h.1, by omega⟩
theorem RepO.more {w : World} {lo hi lo' hi' : Nat} {x : Itm} {cs : List Value} (h : RepO w lo hi x cs) (h1 : lo' ≤ lo) (h2 : hi ≤ hi') : RepO w lo' hi' x cs := by
  obtain ⟨A, A', rfl, a1, a2, a3, a4, a5, a6, a7⟩ := h
  exact ⟨A, A', rfl, a1, a2, a3, a4, a5.more h1 h2, a6, a7.more h1 h2⟩
/-- One more at the end. -/
theorem Lays.snoc {w : World} : ∀ {l : List Itm} {lo m lo2 hi : Nat} {vs : List Value} {x : Itm} {c : List Value}, Lays w lo m l vs → m ≤ lo2 → lo2 ≤ hi → RepO w lo2 hi x c → Lays w lo hi (l ++ [x]) (vs ++ c)
  | [], lo, m, lo2, hi, vs, x, c, h, h1, h2, hx => by
    unfold Lays at h
    obtain ⟨rfl, h3⟩ := h
    show Lays w lo hi [x] _
    unfold Lays
    refine ⟨hi, c, [], by simp, by omega, hx.more (by omega) (Nat.le_refl _), ?_⟩
    unfold Lays
    exact ⟨rfl, Nat.le_refl _⟩
  | y :: l, lo, m, lo2, hi, vs, x, c, h, h1, h2, hx => by
    unfold Lays at h
    obtain ⟨mid, a, r, rfl, h3, h4, h5⟩ := h
    show Lays w lo hi (y :: (l ++ [x])) _
    unfold Lays
    exact ⟨mid, a, r ++ c, by simp, h3, h4, h5.snoc h1 h2 hx⟩
/-- The last one. -/
theorem Lays.last_ {w : World} : ∀ {l : List Itm} {lo hi : Nat} {vs : List Value} {x : Itm}, Lays w lo hi (l ++ [x]) vs → ∃ m vs' c, vs = vs' ++ c ∧ Lays w lo m l vs' ∧ RepO w m hi x c ∧ m ≤ hi
  | [], lo, hi, vs, x, h => by
    have h' : Lays w lo hi [x] vs := h
    unfold Lays at h'
    obtain ⟨mid, c, r, rfl, h1, h2, h3⟩ := h'
    unfold Lays at h3
    obtain ⟨rfl, h4⟩ := h3
    refine ⟨lo, [], c, by simp, by unfold Lays; exact ⟨rfl, Nat.le_refl _⟩, h2.more (Nat.le_refl _) h4, by omega⟩
  | y :: l, lo, hi, vs, x, h => by
    have h' : Lays w lo hi (y :: (l ++ [x])) vs := h
    unfold Lays at h'
    obtain ⟨mid, c, r, rfl, h1, h2, h3⟩ := h'
    obtain ⟨m, vs', c', rfl, h4, h5, h6⟩ := h3.last_
    refine ⟨m, c ++ vs', c', by simp, ?_, h5, h6⟩
    unfold Lays
    exact ⟨mid, c, vs', rfl, h1, h2, h4⟩
/-- Items whose row is a block of its own. -/
def Row (w : World) (g lo hi : Nat) (l : List Itm) : Prop := ∃ vs spare : List Value, Blk w g 26 (vs ++ spare).toArray ∧ Lays w lo hi l vs
theorem Row.keep {w w' : World} {g lo hi : Nat} {l : List Itm} (h : Row w g lo hi l) (hg : w'.heap[g]? = w.heap[g]?) (hk : ∀ i, lo ≤ i → i < hi → w'.heap[i]? = w.heap[i]?) : Row w' g lo hi l := by
  obtain ⟨vs, sp, h1, h2⟩ := h
  exact ⟨vs, sp, hg.trans h1, h2.keep hk⟩
theorem Row.lt {w : World} {g lo hi : Nat} {l : List Itm} (h : Row w g lo hi l) : g < w.heap.size := by
  obtain ⟨vs, sp, h1, h2⟩ := h
  exact h1.lt
theorem Row.below {w w' : World} {g lo hi B : Nat} {l : List Itm} (h : Row w g lo hi l) (hb : Below B w w') (hg : g < B) (hB : hi ≤ B) : Row w' g lo hi l := h.keep (hb.block g hg) fun i _ h2 => hb.block i (by omega)
theorem Row.items {w : World} {g lo hi L H : Nat} {l : List Itm} (h : Row w g lo hi l) (h1 : L ≤ g) (h2 : g < H) (h3 : L ≤ lo) (h4 : hi ≤ H) : ItemsV w L H l (some ⟨g, 0, none⟩) := by
  obtain ⟨vs, sp, hb, hl⟩ := h
  refine ⟨vs, .inr ⟨g, 0, rfl, h1, h2, fun j hj => ?_⟩, hl.reps.more h3 h4⟩
  rw [Nat.zero_add, hb.cell]
  simp [List.getElem?_append, hj]

theorem copyBytes_own (A : Option Addr) (B c : Nat) (xs : List Int) (w : World) (hs : Lst w B A (u8s xs)) (hB : B ≤ w.heap.size) (hl : xs.length ≤ 100000000000000) :
    Calls Tryd.prog 70 #[.slice A xs.length c] w fun e w' =>
      ∃ A', e = .returned (.slice A' xs.length xs.length) ∧ Hid (OwnB w' w.heap.size w'.heap.size A' xs) ∧ Below w.heap.size w w' := by
  obtain ⟨i0, hi0, hz0, hz1, hz2⟩ := info_parts info_u8
  have HM : xs.length ≤ maxLen := by unfold maxLen; omega
  have HS := Lib.hid hs
  clear hs
  go_enter Tryd.func70, Tryd.ntmps70
  go_wp2_with (first
    | (at_builtin
       refine wpList_append_lst _ rfl (.const (.slice none 0 0)) (.tmp 3) _ (by rfl) w.heap.size 5 i0 _ 1 Tryd.underlying23 hi0 hz0 hz1 hz2 rfl (.slice none 0 0) 0 [] (by rfl) ⟨by simp, .inl ⟨rfl, rfl⟩⟩
         B A xs.length c (u8s xs) (by rfl) (by simp) HS.out (u8_one xs) (by omega) (by omega) (Nat.le_refl _) ?_
       intro v1 w1 hown1 hg1 hat1
       have HO1 := Lib.hid hown1
       have HB1 := Lib.hid ((Below.refl w.heap.size w).grown hg1 (Nat.le_refl _) (fun k hk => by simp [Value.ownBlock] at hk))
       clear hown1 hg1 hat1))
  have ho := HO1.out
  rw [Nat.zero_add, List.nil_append] at ho
  obtain ⟨A1, c1, rfl, hc1, hm1⟩ := own_sl ho
  have HO := Lib.hid ho
  clear ho HO1
  refine (clip_bytes A1 xs.length c1 _ hc1 hm1).mono ?_
  rintro e w2 ⟨rfl, rfl⟩
  go_wp2_with fail
  go_ret
  exact ⟨A1, rfl, Lib.hid (OwnB.of_own HO.out), HB1.out⟩


set_option maxRecDepth 100000 in
set_option maxHeartbeats 1000000 in
theorem copyList_lays (l : List Itm) (A : Option Addr) (B c : Nat) (w : World) (hz : 0 < l.length) (hI : ItemsV w 0 B l A) (hB : B ≤ w.heap.size) (hc : l.length ≤ c) (hm : c ≤ maxLen) (hw : wides l ≤ 100000000000000) (hs : sizes l ≤ 2147483648) :
    Calls Tryd.prog 58 #[.slice A l.length c] w fun e w' =>
      ∃ g, e = .returned (.slice (some ⟨g, 0, none⟩) l.length l.length) ∧ Hid (w.heap.size ≤ g ∧ Row w' g (g + 1) w'.heap.size l) ∧ Below w.heap.size w w' := by
  obtain ⟨i0, hi0, hz0, hz1, hz2⟩ := info_parts info_item
  obtain ⟨vs, hseg, hreps⟩ := hI
  have hvl := hreps.length
  have hls := length_le_sizes l
  have HS := Lib.hid hseg
  have HR := Lib.hid hreps
  have HVL := Lib.hid hvl
  have h1c := one_cells hreps
  have H1 := Lib.hid h1c
  unfold maxLen at hm
  have HM : 0 + l.length ≤ maxLen := by unfold maxLen; omega
  have hzpos : (0 : Int) < (l.length : Int) := by omega
  clear hseg hreps hvl h1c
  go_enter Tryd.func58, Tryd.ntmps58
  go_wp2_with (first
    | (at_builtin
       refine wpList_append_seg _ rfl (.const (.slice none 0 0)) (.tmp 6) _ (by rfl) w.heap.size 26 i0 _ 64 Tryd.underlying24 hi0 hz0 4 hz1 hz2 rfl (by omega) (.slice none 0 0) 0 [] (by rfl) ⟨by simp, .inl ⟨rfl, rfl⟩⟩
         0 B A l.length c vs (by rfl) HVL.out HS.out H1.out HM (by omega) (Nat.le_refl _) ?_
       intro v1 w1 hown1 hg1 hat1
       have HO1 := Lib.hid hown1
       have HB1 := Lib.hid ((Below.refl w.heap.size w).grown hg1 (Nat.le_refl _) (fun k hk => by simp [Value.ownBlock] at hk))
       clear hown1 hg1 hat1))
  have ho := HO1.out
  rw [Nat.zero_add, List.nil_append] at ho
  rcases ho.2 with ⟨_, hzz⟩ | ⟨g, c1, cur, rfl, hgb, hblk, hc1, hm1, hcs, htk⟩
  · omega
  have HB2 : Hid (Blk w1 g 26 (vs ++ cur.toList.drop (l.length * 4)).toArray) := Lib.hid (by
    rw [← htk, List.take_append_drop]
    exact hblk)
  have hgl : g < w1.heap.size := Blk.lt (t := 26) hblk
  generalize cur.toList.drop (l.length * 4) = spare at *
  clear HO1 ho hblk htk hcs
  refine (clip_items _ _ c1 _ hc1 hm1).mono ?_
  rintro e w2 ⟨rfl, rfl⟩
  go_wp2_with fail
  go_loopw [11] (fun i wr => ∃ (k : Nat) (done : List Value), k ≤ l.length ∧ i = .int .i64 k ∧ w1.heap.size ≤ wr.heap.size ∧ Hid (Blk wr g 26 (done ++ vs.drop (k * 4) ++ spare).toArray) ∧ Hid (Lays wr (g + 1) wr.heap.size (l.take k) done) ∧ Hid (Below w.heap.size w wr)) (fun i _ => l.length - (intOf i).toNat)
  case atStart => exact ⟨0, [], by omega, rfl, Nat.le_refl _, by simpa using HB2, Lib.hid (by simp [Lays]; omega), HB1⟩
  case round =>
    obtain ⟨k, done, hk, rfl, hsz, HBk, HRk, HWk⟩ := hrel
    clear HB2 HB1
    by_cases hlt : k < l.length
    · obtain ⟨A1, n1, A2, n2, hcut, q1, q2, q3, q4, q5, q6, q7, q8, q9⟩ := cut_at HR.out hlt
      have hdl : done.length = k * 4 := by
        have := HRk.out.reps.length
        rw [List.length_take, Nat.min_eq_left hk] at this
        exact this
      have hbk := HBk.out
      rw [hcut] at hbk
      have e0 : wr.cell? ⟨g, k * 4, none⟩ = some (.int .i64 l[k].kind) := by rw [hbk.cell]; simp [hdl]
      have e1 : wr.cell? ⟨g, k * 4 + 1, none⟩ = some (.int .u64 l[k].num) := by rw [hbk.cell]; simp [hdl]
      have e2 : wr.cell? ⟨g, k * 4 + 2, none⟩ = some (.slice A1 l[k].bs.length n1) := by rw [hbk.cell]; simp [hdl]
      have e3 : wr.cell? ⟨g, k * 4 + 3, none⟩ = some (.slice A2 l[k].sub.length n2) := by rw [hbk.cell]; simp [hdl]
      have HBL := Lib.hid hbk
      have HDL := Lib.hid hdl
      have hbs : l[k].bs.length ≤ 100000000000000 := by have h5 := wide_at l k hlt; have h6 := wide_sub l[k]; omega
      have hwd : wides l[k].sub ≤ 100000000000000 := by have h5 := wide_at l k hlt; have h6 := wide_sub l[k]; omega
      have hsd : sizes l[k].sub ≤ 2147483648 := by have h5 := size_at l k hlt; have h6 := size_sub l[k]; omega
      clear hbk hcut hdl HBk
      have hgr : g < wr.heap.size := by omega
      go_wp2_with fail
      have HX0 := Lib.hid (Blk.new wr 26 #[.int .i64 l[k].kind, .int .u64 l[k].num, .slice A1 l[k].bs.length n1, .slice A2 l[k].sub.length n2])
      have HG0 := Lib.hid (HBL.out.alloc (.cells #[.int .i64 l[k].kind, .int .u64 l[k].num, .slice A1 l[k].bs.length n1, .slice A2 l[k].sub.length n2] 26))
      have HR0 := Lib.hid (HRk.out.keep (w' := wr.alloc (.cells #[.int .i64 l[k].kind, .int .u64 l[k].num, .slice A1 l[k].bs.length n1, .slice A2 l[k].sub.length n2] 26)) fun i _ h2 => Below.heap_alloc _ _ i h2)
      have HW0 := Lib.hid (HWk.out.alloc HWk.out.size (.cells #[.int .i64 l[k].kind, .int .u64 l[k].num, .slice A1 l[k].bs.length n1, .slice A2 l[k].sub.length n2] 26))
      have hz0 : (wr.alloc (.cells #[.int .i64 l[k].kind, .int .u64 l[k].num, .slice A1 l[k].bs.length n1, .slice A2 l[k].sub.length n2] 26)).heap.size = wr.heap.size + 1 := World.size_alloc _ _
      generalize wr.alloc (.cells #[.int .i64 l[k].kind, .int .u64 l[k].num, .slice A1 l[k].bs.length n1, .slice A2 l[k].sub.length n2] 26) = W0 at *
      have HZ0 := Lib.hid hz0
      have KP : ∀ W, Blk W wr.heap.size 26 #[.int .i64 l[k].kind, .int .u64 l[k].num, .slice A1 l[k].bs.length n1, .slice A2 l[k].sub.length n2] → W.cell? ⟨wr.heap.size, 2, none⟩ = some (.slice A1 l[k].bs.length n1) ∧ W.cell? ⟨wr.heap.size, 3, none⟩ = some (.slice A2 l[k].sub.length n2) :=
        fun W h => ⟨by simpa using h.cell 2, by simpa using h.cell 3⟩
      have HKP := Lib.hid KP
      have KQ : ∀ W, Blk W g 26 (done ++ (Value.int .i64 l[k].kind :: .int .u64 l[k].num :: .slice A1 l[k].bs.length n1 :: .slice A2 l[k].sub.length n2 :: vs.drop ((k + 1) * 4)) ++ spare).toArray → W.cell? ⟨g, k * 4 + 2, none⟩ = some (.slice A1 l[k].bs.length n1) := fun W h => by rw [h.cell]; simp [HDL.out]
      have KR : ∀ W, Blk W g 26 (done ++ (Value.int .i64 l[k].kind :: .int .u64 l[k].num :: .slice A1 l[k].bs.length n1 :: .slice A2 l[k].sub.length n2 :: vs.drop ((k + 1) * 4)) ++ spare).toArray → W.cell? ⟨g, k * 4 + 3, none⟩ = some (.slice A2 l[k].sub.length n2) := fun W h => by rw [h.cell]; simp [HDL.out]
      have HKQ := Lib.hid KQ
      have HKR := Lib.hid KR
      have hne : wr.heap.size ≠ g := by omega
      have HNE := Lib.hid hne
      have C1 := Lib.hid (fun (W : World) (hb : Below w.heap.size w W) => copyBytes_own A1 B n1 l[k].bs W (q6.lst.below' hb hB) (by have := hb.size; omega) hbs)
      have C2 := Lib.hid (fun (W : World) (hb : Below w.heap.size w W) => copyList_any (deeps l[k].sub) l[k].sub A2 B n2 W (Nat.le_refl _) (q9.below (hb.mono hB)) (by have := hb.size; omega) q7 q8 hwd hsd)
      have j0 : (0 : Int) ≤ (k : Int) := by omega
      have j1 : (k : Int) < (l.length : Int) := by omega
      clear KP KQ KR hne q6 q9 hz0 e0 e1 e2 e3
      go_region_held3 (fun w' => w'.cell? ⟨wr.heap.size, 2, none⟩ = some (.slice A1 l[k].bs.length n1) ∧ w'.cell? ⟨wr.heap.size, 3, none⟩ = some (.slice A2 l[k].sub.length n2))
        (first | exact HKP.out _ HX0.out.drew | exact HKP.out _ HX3.out | exact HKP.out _ HX4.out | exact HKP.out _ (HX4.out.far HNE.out _) | exact HKP.out _ ((HX4.out.far HNE.out _).far HNE.out _))
        (first | (go_at_call 70; refine (C1.out _ HW0.out.drew).mono ?_; rintro e w3 ⟨Ab, rfl, HSb, hb3⟩; have HX3 := Lib.hid (HX0.out.drew.next hb3); have HB3 := Lib.hid hb3; have HW3 := Lib.hid (below_next HW0.out.drew HW0.out.drew.size hb3); clear hb3) | (go_at_call 58; refine (C2.out _ HW3.out).mono ?_; rintro e w4 ⟨Al, rfl, HSl, hb4⟩; have HX4 := Lib.hid (HX3.out.next hb4); have HB4 := Lib.hid hb4; have HW4 := Lib.hid (below_next HW3.out HW3.out.size hb4); have HG4 := Lib.hid ((HG0.out.drew.next HB3.out).next hb4); have x2 : w4.cell? ⟨g, k * 4 + 2, none⟩ = some (.slice A1 l[k].bs.length n1) := HKQ.out _ HG4.out; have y2 : w4.frozen? ⟨g, k * 4 + 2, none⟩ = false := HG4.out.frozen _; have x3 : w4.cell? ⟨g, k * 4 + 3, none⟩ = some (.slice A2 l[k].sub.length n2) := HKR.out _ HG4.out; have y3 : w4.frozen? ⟨g, k * 4 + 3, none⟩ = false := HG4.out.frozen _; clear hb4))
      have hz3 := HB3.out.size
      have hz4 := HB4.out.size
      have hz0 : W0.drew.heap.size = wr.heap.size + 1 := HZ0.out
      have hgr0 := hgr
      have HZ5 : Hid (((w4.setCell ⟨g, k * 4 + 2, none⟩ (.slice Ab l[k].bs.length l[k].bs.length)).setCell ⟨g, k * 4 + 3, none⟩ (.slice Al l[k].sub.length l[k].sub.length)).heap.size = w4.heap.size) := Lib.hid (by simp [World.setCell])
      have HG5 : Hid (Blk ((w4.setCell ⟨g, k * 4 + 2, none⟩ (.slice Ab l[k].bs.length l[k].bs.length)).setCell ⟨g, k * 4 + 3, none⟩ (.slice Al l[k].sub.length l[k].sub.length)) g 26
          ((done ++ [Value.int .i64 l[k].kind, .int .u64 l[k].num, .slice Ab l[k].bs.length l[k].bs.length, .slice Al l[k].sub.length l[k].sub.length]) ++ vs.drop ((k + 1) * 4) ++ spare).toArray) := Lib.hid (by
        have h := (HG4.out.set_ (k * 4 + 2) (.slice Ab l[k].bs.length l[k].bs.length)).set_ (k * 4 + 3) (.slice Al l[k].sub.length l[k].sub.length)
        rw [List.append_assoc, List.cons_append, List.cons_append, List.cons_append, List.cons_append, row_set _ _ _ _ _ _ _ _ k HDL.out] at h
        rw [List.append_assoc (_ ++ _)]
        exact h)
      have HR5 : Hid (Lays ((w4.setCell ⟨g, k * 4 + 2, none⟩ (.slice Ab l[k].bs.length l[k].bs.length)).setCell ⟨g, k * 4 + 3, none⟩ (.slice Al l[k].sub.length l[k].sub.length)) (g + 1) w4.heap.size (l.take (k + 1))
          (done ++ [Value.int .i64 l[k].kind, .int .u64 l[k].num, .slice Ab l[k].bs.length l[k].bs.length, .slice Al l[k].sub.length l[k].sub.length])) := Lib.hid (by
        have h0 : Lays w4 (g + 1) wr.heap.size (l.take k) done := ((HR0.out.keep (w' := W0.drew) fun _ _ _ => rfl).below HB3.out (by omega)).below HB4.out (by omega)
        have kk : ∀ i, g < i → ((w4.setCell ⟨g, k * 4 + 2, none⟩ (.slice Ab l[k].bs.length l[k].bs.length)).setCell ⟨g, k * 4 + 3, none⟩ (.slice Al l[k].sub.length l[k].sub.length)).heap[i]? = w4.heap[i]? := fun i hi => (Below.heap_setCell _ _ _ _ (by show i ≠ g; omega)).trans (Below.heap_setCell _ _ _ _ (by show i ≠ g; omega))
        have h1 := h0.keep (w' := ((w4.setCell ⟨g, k * 4 + 2, none⟩ (.slice Ab l[k].bs.length l[k].bs.length)).setCell ⟨g, k * 4 + 3, none⟩ (.slice Al l[k].sub.length l[k].sub.length))) fun i a _ => kk i (by omega)
        have s1 : OwnB ((w4.setCell ⟨g, k * 4 + 2, none⟩ (.slice Ab l[k].bs.length l[k].bs.length)).setCell ⟨g, k * 4 + 3, none⟩ (.slice Al l[k].sub.length l[k].sub.length)) (wr.heap.size + 1) w4.heap.size Ab l[k].bs := ((HSb.out.keep (w' := w4) fun i _ h => HB4.out.block i h).keep (w' := ((w4.setCell ⟨g, k * 4 + 2, none⟩ (.slice Ab l[k].bs.length l[k].bs.length)).setCell ⟨g, k * 4 + 3, none⟩ (.slice Al l[k].sub.length l[k].sub.length))) fun i a _ => kk i (by omega)).more (by omega) (by omega)
        have s2 : ItemsV ((w4.setCell ⟨g, k * 4 + 2, none⟩ (.slice Ab l[k].bs.length l[k].bs.length)).setCell ⟨g, k * 4 + 3, none⟩ (.slice Al l[k].sub.length l[k].sub.length)) (wr.heap.size + 1) w4.heap.size l[k].sub Al := ((HSl.out.set_ (p := ⟨g, k * 4 + 2, none⟩) (.inl (by show g < _; omega)) (.slice Ab l[k].bs.length l[k].bs.length)).set_ (p := ⟨g, k * 4 + 3, none⟩) (.inl (by show g < _; omega)) (.slice Al l[k].sub.length l[k].sub.length)).more (by omega) (by omega)
        rw [take_snoc l k hlt]
        exact h1.snoc (lo2 := wr.heap.size + 1) (by omega) (by omega) ⟨Ab, Al, rfl, q1, q2, q3, by unfold maxLen; omega, s1, by have := length_le_sizes l[k].sub; unfold maxLen; omega, s2⟩)
      have HW5 := Lib.hid ((HW4.out.setCell (p := ⟨g, k * 4 + 2, none⟩) hgb (.slice Ab l[k].bs.length l[k].bs.length)).setCell (p := ⟨g, k * 4 + 3, none⟩) hgb (.slice Al l[k].sub.length l[k].sub.length))
      clear HG4 HSb HSl HB3 HB4 HW4 HX3 HX4 HW3 HX0 HG0 HR0 HW0 x2 y2 x3 y3
      go_wp2_with fail
      go_roundw
      case rel => exact ⟨k + 1, _, by omega, by go_num, by have := HZ5.out; omega, HG5, by rw [HZ5.out]; exact HR5, HW5⟩
      case measure => simp [intOf]; omega
    · obtain rfl : k = l.length := by omega
      go_wp2_with fail
      go_ret
      have hrr := HRk.out
      rw [take_all] at hrr
      refine ⟨g, rfl, Lib.hid ⟨hgb, done, spare, ?_, hrr⟩, HWk.out⟩
      have hbk := HBk.out
      have hdl : vs.drop (l.length * 4) = [] := List.drop_of_length_le (by rw [HVL.out]; exact Nat.le_refl _)
      rw [hdl, List.append_nil] at hbk
      exact hbk

theorem set4_heap (w : World) (b : Nat) (x y z u : Value) {i : Nat} (h : i ≠ b) : ((((w.setCell ⟨b, 0, none⟩ x).setCell ⟨b, 1, none⟩ y).setCell ⟨b, 2, none⟩ z).setCell ⟨b, 3, none⟩ u).heap[i]? = w.heap[i]? :=
  (Below.heap_setCell _ _ _ _ h).trans ((Below.heap_setCell _ _ _ _ h).trans ((Below.heap_setCell _ _ _ _ h).trans (Below.heap_setCell _ _ _ _ h)))
theorem Row.hi_eq {w : World} {g lo hi hi' : Nat} {l : List Itm} (h : Row w g lo hi l) (e : hi' = hi) : Row w g lo hi' l := e ▸ h

set_option maxHeartbeats 400000 in
theorem list_lays (l : List Itm) (A : Option Addr) (B c : Nat) (w : World) (hz0 : 0 < l.length) (hI : ItemsV w 0 B l A) (hB : B ≤ w.heap.size) (hc : l.length ≤ c) (hm : c ≤ maxLen) (hw : wides l ≤ 100000000000000) (hs : sizes l ≤ 2147483647) (hd : deeps l ≤ 65537) :
    Calls Tryd.prog 33 #[.slice A l.length c] w fun e w' =>
      ∃ g, e = .returned (.agg #[.int .i64 4, .int .u64 0, .slice none 0 0, .slice (some ⟨g, 0, none⟩) l.length l.length]) ∧ Hid (w.heap.size ≤ g ∧ Row w' g (g + 1) w'.heap.size l) ∧ Below w.heap.size w w' := by
  have hb0 : Below w.heap.size w ((w.alloc (.cells #[.int .i64 0, .int .u64 0, .slice none 0 0, .slice none 0 0] 26)).alloc (.cells #[.int .i64 2147483647] 3)) := ((Below.refl _ _).alloc (Nat.le_refl _) _).alloc (by simp) _
  have hI0 : ItemsV ((w.alloc (.cells #[.int .i64 0, .int .u64 0, .slice none 0 0, .slice none 0 0] 26)).alloc (.cells #[.int .i64 2147483647] 3)) 0 (w.heap.size + 1) l A := ((hI.more (Nat.le_refl _) hB).below hb0).more (Nat.le_refl _) (by omega)
  have hB1 : Blk ((w.alloc (.cells #[.int .i64 0, .int .u64 0, .slice none 0 0, .slice none 0 0] 26)).alloc (.cells #[.int .i64 2147483647] 3)) (w.heap.size + 1) 3 #[.int .i64 2147483647] := by
    have := Blk.new (w.alloc (.cells #[.int .i64 0, .int .u64 0, .slice none 0 0, .slice none 0 0] 26)) 3 #[.int .i64 2147483647]
    rwa [World.size_alloc] at this
  have hB0 : Blk ((w.alloc (.cells #[.int .i64 0, .int .u64 0, .slice none 0 0, .slice none 0 0] 26)).alloc (.cells #[.int .i64 2147483647] 3)) w.heap.size 26 #[.int .i64 0, .int .u64 0, .slice none 0 0, .slice none 0 0] := (Blk.new w _ _).alloc _
  have hz : ((w.alloc (.cells #[.int .i64 0, .int .u64 0, .slice none 0 0, .slice none 0 0] 26)).alloc (.cells #[.int .i64 2147483647] 3)).heap.size = w.heap.size + 2 := by simp
  have hfit : CbWithin.fits l 65537 2147483647 = true := by simp only [CbWithin.fits, decide_eq_true_eq]; omega
  have HF := Lib.hid hfit
  have C1 := Lib.hid (CbWithin.within_any (deeps l) l A c (w.heap.size + 1) 65537 2147483647 _ (Nat.le_refl _) hI0 hc hm hB1 (by omega) (by omega) (by omega) (by omega))
  have HB0 := Lib.hid hB0
  have HW0 := Lib.hid hb0
  have HZ := Lib.hid hz
  have C2 := Lib.hid (fun (W : World) (hb : Below w.heap.size w W) => copyList_lays l A B c W hz0 ((hI.below (hb.mono hB))) (by have := hb.size; omega) hc hm hw (by omega))
  clear hfit hI hI0 hB1 hB0 hb0 hz
  go_enter Tryd.func33, Tryd.ntmps33
  go_wp2_with fail
  refine C1.out.mono ?_
  rintro e w1 ⟨rfl, hb1, r, HBr, HFr⟩
  rw [HF.out]
  have HB1 := Lib.hid (HB0.out.below hb1 (by omega))
  have HW1 := Lib.hid (HW0.out.trans (hb1.mono (by omega)))
  have hz1 : w.heap.size + 2 ≤ w1.heap.size := by have := hb1.size; have := HZ.out; omega
  clear hb1 C1 HB0 HW0
  go_wp2_with fail
  refine (C2.out _ HW1.out).mono ?_
  rintro e w2 ⟨g2, rfl, HI2, hb2⟩
  have hg2 := HI2.out.1
  have hbl := HB1.out.next hb2
  have c0 : w2.cell? ⟨w.heap.size, 0, none⟩ = some (.int .i64 0) := by simpa using hbl.cell 0
  have c1 : w2.cell? ⟨w.heap.size, 1, none⟩ = some (.int .u64 0) := by simpa using hbl.cell 1
  have c2 : w2.cell? ⟨w.heap.size, 2, none⟩ = some (.slice none 0 0) := by simpa using hbl.cell 2
  have c3 : w2.cell? ⟨w.heap.size, 3, none⟩ = some (.slice none 0 0) := by simpa using hbl.cell 3
  have f0 := hbl.frozen 0
  have f1 := hbl.frozen 1
  have f2 := hbl.frozen 2
  have f3 := hbl.frozen 3
  have HW2 := Lib.hid (below_next HW1.out HW1.out.size hb2)
  clear hb2 hbl
  go_wp2_with fail
  exact bodyPost_ret (v := .agg #[.int .i64 4, .int .u64 0, .slice none 0 0, .slice (some ⟨g2, 0, none⟩) l.length l.length]) (by simp [results, Tryd.results33, go_sem, c0, c1, c2, c3, f0, f1, f2, f3]) rfl
    ⟨g2, rfl, Lib.hid ⟨by omega, (HI2.out.2.keep (set4_heap _ _ _ _ _ _ (by omega)) (fun i h _ => set4_heap _ _ _ _ _ _ (by omega))).hi_eq (by simp [World.setCell])⟩, below_set4 HW2.out (Nat.le_refl _) _ _ _ _⟩
end Go.Proofs.YthknkdphofjmhaaDoor.CbLays
