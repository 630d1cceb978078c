/- The walk of law03's CborMade. -/
import Derived.Test.YtoieadbifhealaaDoorCborWrites
import Derived.Test.YtoieadbifhealaaDoorCbList
namespace Go.Proofs.YtoieadbifhealaaDoor.CborMade
open Go.RowKit Wd Cb CbCopy CbRight CbWrite U8V CbSame Alive03 CborBack CborWrites

theorem bel_alloc {a w : World} (h : Below a.heap.size a w) (o : Obj) : Below a.heap.size a (w.alloc o) := h.alloc h.size o
theorem bel_call {a w w' : World} (h : Below a.heap.size a w) (k : Below w.heap.size w w') : Below a.heap.size a w' := below_next h h.size k
theorem bel_drew {a w : World} (h : Below a.heap.size a w) : Below a.heap.size a w.drew := h.drew
theorem new1 (w : World) (o : Obj) (t : TypeId) (cs : Array Value) : Blk ((w.alloc o).alloc (.cells cs t)) (w.heap.size + 1) t cs := by
  have h := Blk.new (w.alloc o) t cs
  rwa [World.size_alloc] at h
/-- The part that is put in twice. -/
def pB (xs : List Int) : Itm := .mk 2 0 xs []
/-- The parts. -/
def parts (n : Int) (xs : List Int) (s : ByteArray) : List Itm := [.mk 0 n [] [], pB xs, .mk 3 0 (nums s) [], .mk 4 0 [] [pB xs]]
theorem items1 {W : World} {g : Nat} {xs : List Int} {A : Option Addr} (hg : g < W.heap.size) (hk : Blk W g 26 #[.int .i64 2, .int .u64 0, .slice A xs.length xs.length, .slice none 0 0]) (hs : Seg W 0 W.heap.size A (u8s xs)) (hx : St.bts xs) (hm : xs.length ≤ maxLen) :
    ItemsV W 0 W.heap.size [pB xs] (some ⟨g, 0, none⟩) := by
  refine ⟨[.int .i64 2, .int .u64 0, .slice A xs.length xs.length, .slice none 0 0], .inr ⟨g, 0, rfl, Nat.zero_le _, hg, fun j _ => ?_⟩, ?_⟩
  · rw [Nat.zero_add]
    simpa using hk.cell j
  · exact Reps.one (Rep.mk (b := xs) (l := []) (by omega) (by omega) hx (Nat.le_refl _) hm hs (Nat.le_refl _) (by simp) ItemsV.nil)
theorem items4 {W : World} {g : Nat} {n : Int} {xs : List Int} {s : ByteArray} {A At AL : Option Addr} (hn : 0 ≤ n ∧ n ≤ 18446744073709551615) (hg : g < W.heap.size)
    (hk : Blk W g 26 #[.int .i64 0, .int .u64 n, .slice none 0 0, .slice none 0 0, .int .i64 2, .int .u64 0, .slice A xs.length xs.length, .slice none 0 0, .int .i64 3, .int .u64 0, .slice At (nums s).length (nums s).length, .slice none 0 0, .int .i64 4, .int .u64 0, .slice none 0 0, .slice AL 1 1])
    (hs : Seg W 0 W.heap.size A (u8s xs)) (ht : Seg W 0 W.heap.size At (u8s (nums s))) (hl : ItemsV W 0 W.heap.size [pB xs] AL) (hx : St.bts xs) (hm : xs.length ≤ maxLen) (hm2 : (nums s).length ≤ maxLen) : ItemsV W 0 W.heap.size (parts n xs s) (some ⟨g, 0, none⟩) := by
  refine ⟨[.int .i64 0, .int .u64 n, .slice none 0 0, .slice none 0 0, .int .i64 2, .int .u64 0, .slice A xs.length xs.length, .slice none 0 0, .int .i64 3, .int .u64 0, .slice At (nums s).length (nums s).length, .slice none 0 0, .int .i64 4, .int .u64 0, .slice none 0 0, .slice AL 1 1], .inr ⟨g, 0, rfl, Nat.zero_le _, hg, fun j hj => ?_⟩, ?_⟩
  rotate_left
  · unfold parts Reps
    refine ⟨[.int .i64 0, .int .u64 n, .slice none 0 0, .slice none 0 0], _, rfl, Rep.mk (b := []) (l := []) (by omega) hn (by intro x hx; cases hx) (Nat.le_refl _) (by simp) .nil (Nat.le_refl _) (by simp) ItemsV.nil, ?_⟩
    unfold Reps
    refine ⟨[.int .i64 2, .int .u64 0, .slice A xs.length xs.length, .slice none 0 0], _, rfl, Rep.mk (b := xs) (l := []) (by omega) (by omega) hx (Nat.le_refl _) hm hs (Nat.le_refl _) (by simp) ItemsV.nil, ?_⟩
    unfold Reps
    refine ⟨[.int .i64 3, .int .u64 0, .slice At (nums s).length (nums s).length, .slice none 0 0], _, rfl, Rep.mk (b := nums s) (l := []) (by omega) (by omega) (nums_bts s) (Nat.le_refl _) hm2 ht (Nat.le_refl _) (by simp) ItemsV.nil, ?_⟩
    exact Reps.one (Rep.mk (k := 4) (n := 0) (b := []) (l := [pB xs]) (c' := 1) (by omega) (by omega) (by intro x hx; cases hx) (Nat.le_refl _) (by simp) .nil (Nat.le_refl _) (by decide) hl)
  · rw [Nat.zero_add]
    simpa using hk.cell j
/-- A slice whose cells may be written. -/
def Wri (w : World) (lo hi : Nat) (A : Option Addr) (n : Nat) : Prop := n = 0 ∨ ∃ (g : Nat) (t : TypeId) (cs : Array Value), A = some ⟨g, 0, none⟩ ∧ lo ≤ g ∧ g < hi ∧ Blk w g t cs ∧ ∀ j, j < n → ∃ y : Int, cs[j]? = some (.int .u8 y)
theorem Wri.of_own {w : World} {base n c : Nat} {e : TypeId} {A : Option Addr} {xs : List Int} (h : w.ownsRow base e 1 (.slice A n c) n (u8s xs)) : Wri w base w.heap.size A n := by
  have hl := h.1
  rcases h.2 with ⟨h', hn⟩ | ⟨g, cap', cur, h', hb, hblk, hc, hm, hs, htk⟩
  · exact .inl hn
  · injection h' with hA _ _
    refine .inr ⟨g, e, cur, hA, hb, Blk.lt (t := e) hblk, hblk, fun j hj => ?_⟩
    have hg : cur[j]? = (u8s xs)[j]? := by
      rw [← htk, List.getElem?_take_of_lt (by omega)]
      simp
    rw [hg]
    have hlen : j < xs.length := by simpa [u8s] using (show j < (u8s xs).length by omega)
    exact ⟨xs[j], by simp [u8s, List.getElem?_eq_getElem hlen]⟩
theorem Wri.below {w w' : World} {lo hi n : Nat} {A : Option Addr} {B : Nat} (h : Wri w lo hi A n) (hb : Below B w w') (hB : hi ≤ B) : Wri w' lo hi A n := by
  rcases h with h | ⟨g, t, cs, h1, h2, h3, h4, h5⟩
  · exact .inl h
  · exact .inr ⟨g, t, cs, h1, h2, h3, h4.below hb (by omega), h5⟩
theorem Wri.more {w : World} {lo hi lo' hi' n : Nat} {A : Option Addr} (h : Wri w lo hi A n) (h1 : lo' ≤ lo) (h2 : hi ≤ hi') : Wri w lo' hi' A n := by
  rcases h with h | ⟨g, t, cs, e1, e2, e3, e4, e5⟩
  · exact .inl h
  · exact .inr ⟨g, t, cs, e1, by omega, by omega, e4, e5⟩
theorem Wri.set_ {w : World} {lo hi n : Nat} {A : Option Addr} (h : Wri w lo hi A n) (g i : Nat) (y : Int) : Wri (w.setCell ⟨g, i, none⟩ (.int .u8 y)) lo hi A n := by
  rcases h with h | ⟨g', t, cs, e1, e2, e3, e4, e5⟩
  · exact .inl h
  · by_cases hg : g' = g
    · subst hg
      refine .inr ⟨g', t, _, e1, e2, e3, e4.set_ i _, fun j hj => ?_⟩
      obtain ⟨z, hz⟩ := e5 j hj
      by_cases hij : i = j
      · subst hij
        refine ⟨y, ?_⟩
        have : i < cs.size := by
          rcases Nat.lt_or_ge i cs.size with h | h
          · exact h
          · rw [Array.getElem?_eq_none h] at hz; cases hz
        simp [Array.getElem?_setIfInBounds, this]
      · exact ⟨z, by rw [Array.getElem?_setIfInBounds, if_neg hij]; exact hz⟩
    · exact .inr ⟨g', t, cs, e1, e2, e3, e4.far (p := ⟨g, i, none⟩) hg _, e5⟩
theorem Wri.at_ {w : World} {lo hi n j : Nat} {A : Option Addr} (h : Wri w lo hi A n) (hj : j < n) : ∃ (g : Nat) (y : Int), A = some ⟨g, 0, none⟩ ∧ lo ≤ g ∧ g < hi ∧ w.cell? ⟨g, j, none⟩ = some (.int .u8 y) ∧ w.frozen? ⟨g, j, none⟩ = false := by
  rcases h with h | ⟨g, t, cs, e1, e2, e3, e4, e5⟩
  · omega
  · obtain ⟨y, hy⟩ := e5 j hj
    exact ⟨g, y, e1, e2, e3, by rw [e4.cell, hy], e4.frozen j⟩

/-- What is left alone while the parts are turned over. -/
structure Kp (W wc wr : World) (z : Nat) : Prop where
  below : Below W.heap.size W wr
  cells : ∀ p : Addr, z ≤ p.block → wr.cell? p = wc.cell? p
  size : wc.heap.size ≤ wr.heap.size
theorem Kp.set_ {W wc wr : World} {z : Nat} (h : Kp W wc wr z) (g i : Nat) (u : Value) (h1 : W.heap.size ≤ g) (h2 : g < z) : Kp W wc (wr.setCell ⟨g, i, none⟩ u) z :=
  ⟨h.below.setCell (p := ⟨g, i, none⟩) h1 u, fun p hp => (keep_set (w := wr) (p := ⟨g, i, none⟩) (lo := p.block) (hi := p.block + 1) (by show g < p.block ∨ p.block + 1 ≤ g; omega) u p (Nat.le_refl _) (by omega)).trans (h.cells p hp), by have := h.size; simpa [World.setCell] using this⟩
theorem Kp.drew {W wc wr : World} {z : Nat} (h : Kp W wc wr z) : Kp W wc wr.drew z := ⟨h.below.drew, h.cells, h.size⟩
theorem Wri.drew {w : World} {lo hi n : Nat} {A : Option Addr} (h : Wri w lo hi A n) : Wri w.drew lo hi A n := h

/-- The parts, cell by cell. -/
theorem parts_at {w : World} {lo hi : Nat} {n : Int} {xs : List Int} {s : ByteArray} {AL : Option Addr} (h : ItemsV w lo hi (parts n xs s) AL) : ∃ (b o : Nat) (A1 : Option Addr) (c1 : Nat) (A2 : Option Addr) (c2 b3 o3 c3 : Nat) (A4 : Option Addr) (c4 : Nat), AL = some ⟨b, o, none⟩ ∧ b < hi ∧ b3 < hi ∧
    (w.cell? ⟨b, o + 1, none⟩ = some (.int .u64 n) ∧ w.cell? ⟨b, o + 4, none⟩ = some (.int .i64 2) ∧ w.cell? ⟨b, o + 4 + 2, none⟩ = some (.slice A1 xs.length c1) ∧ w.cell? ⟨b, o + 8, none⟩ = some (.int .i64 3) ∧ w.cell? ⟨b, o + 8 + 2, none⟩ = some (.slice A2 (nums s).length c2) ∧
      w.cell? ⟨b, o + 12 + 3, none⟩ = some (.slice (some ⟨b3, o3, none⟩) 1 c3) ∧ w.cell? ⟨b3, o3 + 2, none⟩ = some (.slice A4 xs.length c4)) ∧
    Lst w hi A1 (u8s xs) ∧ Lst w hi A2 (u8s (nums s)) ∧ Lst w hi A4 (u8s xs) ∧ 1 ≤ c3 ∧ c3 ≤ maxLen := by
  obtain ⟨b, o, _, _, _, _, rfl, _, hb, _, e1, _, _, _⟩ := h.at_ (k := 0) (by simp [parts])
  obtain ⟨_, _, A1, c1, _, _, e, _, _, f0, _, f2, _, _, _, _, _, _, f4, _⟩ := h.at_ (k := 1) (by simp [parts])
  obtain ⟨_, _, A2, c2, _, _, e', _, _, g0, _, g2, _, _, _, _, _, _, g4, _⟩ := h.at_ (k := 2) (by simp [parts])
  obtain ⟨_, _, _, _, A3, c3, e'', _, _, _, _, _, k3, _, _, _, _, _, _, k7, k8, k9⟩ := h.at_ (k := 3) (by simp [parts])
  obtain ⟨b3, o3, A4, c4, _, _, rfl, _, hb3, _, _, m2, _, _, _, _, _, _, m4, _⟩ := k9.at_ (k := 0) (by simp [parts, Itm.sub])
  simp only [Option.some.injEq, Addr.mk.injEq, and_true] at e e' e''
  obtain ⟨rfl, rfl⟩ := e
  obtain ⟨rfl, rfl⟩ := e'
  obtain ⟨rfl, rfl⟩ := e''
  exact ⟨b, o, A1, c1, A2, c2, b3, o3, c3, A4, c4, rfl, hb, hb3, ⟨e1, f0, f2, g0, g2, k3, m2⟩, f4.lst, g4.lst, m4.lst, k7, k8⟩

theorem copyBytes_own (A : Option Addr) (B c : Nat) (xs : List Int) (w : World) (hs : Lst w B A (u8s xs)) (hB : B ≤ w.heap.size) (hl : xs.length ≤ 100000000000000) :
    Calls Tryd.prog 55 #[.slice A xs.length c] w fun e w' =>
      ∃ A', e = .returned (.slice A' xs.length xs.length) ∧ Hid (Seg w' w.heap.size w'.heap.size A' (u8s xs)) ∧ Hid (Wri w' w.heap.size w'.heap.size A' xs.length) ∧ Below w.heap.size w w' := by
  obtain ⟨i0, hi0, hz0, hz1, hz2⟩ := info_parts CbCopy.info_u8
  have HM : xs.length ≤ maxLen := by unfold maxLen; omega
  have HS := Lib.hid hs
  clear hs
  go_enter Tryd.func55, Tryd.ntmps55
  go_wp2_with (first
    | (at_builtin
       refine wpList_append_lst _ rfl (.const (.slice none 0 0)) (.tmp 3) _ (by rfl) w.heap.size 5 i0 _ 1 Tryd.underlying23 hi0 hz0 hz1 hz2 rfl (.slice none 0 0) 0 [] (by rfl) ⟨by simp, .inl ⟨rfl, rfl⟩⟩
         B A xs.length c (u8s xs) (by rfl) (by simp) HS.out (u8_one xs) (by omega) (by omega) (Nat.le_refl _) ?_
       intro v1 w1 hown1 hg1 hat1
       have HO1 := Lib.hid hown1
       have HB1 := Lib.hid ((Below.refl w.heap.size w).grown hg1 (Nat.le_refl _) (fun k hk => by simp [Value.ownBlock] at hk))
       clear hown1 hg1 hat1))
  have ho := HO1.out
  rw [Nat.zero_add, List.nil_append] at ho
  obtain ⟨A1, c1, rfl, hc1, hm1⟩ := own_sl ho
  have HO := Lib.hid ho
  clear ho HO1
  refine (clip_bytes A1 xs.length c1 _ hc1 hm1).mono ?_
  rintro e w2 ⟨rfl, rfl⟩
  go_wp2_with fail
  go_ret
  exact ⟨A1, rfl, Lib.hid (Seg.of_own HO.out), Lib.hid (Wri.of_own HO.out), HB1.out⟩

theorem Wri.grown {w w' : World} {lo hi n : Nat} {A : Option Addr} {g : Nat} (h : Wri w lo hi A n) (hb : w.grownBy w' (some g)) (hg : g < lo ∨ hi ≤ g) : Wri w' lo hi A n := by
  rcases h with h | ⟨g', t, cs, e1, e2, e3, e4, e5⟩
  · exact .inl h
  · exact .inr ⟨g', t, cs, e1, e2, e3, CbWrite.Blk.grown e4 hb (fun e => by injection e; omega), e5⟩

theorem bytes_own (A : Option Addr) (B c : Nat) (xs : List Int) (w : World) (hs : Lst w B A (u8s xs)) (hB : B ≤ w.heap.size) (hl : xs.length ≤ 100000000000000) :
    Calls Tryd.prog 23 #[.slice A xs.length c] w fun e w' =>
      ∃ A', e = .returned (.agg #[.int .i64 2, .int .u64 0, .slice A' xs.length xs.length, .slice none 0 0]) ∧ Hid (Seg w' w.heap.size w'.heap.size A' (u8s xs)) ∧ Hid (Wri w' w.heap.size w'.heap.size A' xs.length) ∧ Below w.heap.size w w' := by
  have HS := Lib.hid (hs.below' ((Below.refl w.heap.size w).alloc (Nat.le_refl _) (.cells #[.int .i64 0, .int .u64 0, .slice none 0 0, .slice none 0 0] 26)) hB)
  clear hs
  go_enter Tryd.func23, Tryd.ntmps23
  go_wp2_with fail
  refine (copyBytes_own A B c xs _ HS.out (by simp; omega) hl).mono ?_
  rintro e w1 ⟨A1, rfl, HS1, HW1, hb1⟩
  obtain ⟨⟨c0, c1, c2, c3⟩, ⟨f0, f1, f2, f3⟩, hz, hb⟩ := zero_item hb1
  have HB := Lib.hid hb
  clear hb hb1
  go_wp2_with fail
  exact bodyPost_ret (v := .agg #[.int .i64 2, .int .u64 0, .slice A1 xs.length xs.length, .slice none 0 0]) (by simp [results, Tryd.results23, go_sem, c0, c1, c2, c3, f0, f1, f2, f3]) rfl
    ⟨A1, rfl, Lib.hid (by
      have h := HS1.out
      rw [World.size_alloc] at h
      exact (h.set4 (.inl (Nat.lt_succ_self _)) _ _ _ _).more (by omega) (by simp [World.setCell])), Lib.hid (by
      have h := HW1.out
      rw [World.size_alloc] at h
      exact (h.grown (CbHead.only_set4 (only_below (Below.refl _ _)) _ _ _ _) (.inl (Nat.lt_succ_self _))).more (by omega) (by simp [World.setCell])), below_set4 HB.out (Nat.le_refl _) _ _ _ _⟩

theorem blk_both {w w' : World} {g : Nat} {t : TypeId} {cs : Array Value} (h : Blk w g t cs) (hb : Below w.heap.size w w') : g < w.heap.size ∧ Blk w' g t cs := ⟨h.lt, h.next hb⟩
theorem segB {w W' : World} {A : Option Addr} {vs : List Value} (h : Seg w 0 w.heap.size A vs) (hb : Below w.heap.size w W') : Seg W' 0 W'.heap.size A vs := (h.below hb).more (Nat.le_refl _) hb.size
theorem itemsB {w W' : World} {A : Option Addr} {l : List Itm} (h : ItemsV w 0 w.heap.size l A) (hb : Below w.heap.size w W') : ItemsV W' 0 W'.heap.size l A := (h.below hb).more (Nat.le_refl _) hb.size
theorem bel_size {a w w' : World} (h : Below a.heap.size a w) (_ : Below w.heap.size w w') : a.heap.size ≤ w.heap.size := h.size
theorem finA {wb wM V : World} {l : List Itm} {AM : Option Addr} {a b : Value} {q : Nat} (h0 : Below wb.heap.size wb wM) (h35 : wb.heap.size ≤ V.heap.size) (hI : ItemsV wM V.heap.size wM.heap.size l AM) :
    ∃ (n9 : Nat) (AL : Option Addr), Value.pointer (some ⟨wM.heap.size, 0, none⟩) = .pointer (some ⟨n9, 0, none⟩) ∧ wb.heap.size ≤ n9 ∧ n9 < (wM.alloc (.cells #[a, b, .slice none 0 0, .slice AM q q] 26)).heap.size ∧ Hid (Cells (wM.alloc (.cells #[a, b, .slice none 0 0, .slice AM q q] 26)) n9 a b (.slice none 0 0) (.slice AL q q)) ∧
      Hid (ItemsV (wM.alloc (.cells #[a, b, .slice none 0 0, .slice AM q q] 26)) wb.heap.size (wM.alloc (.cells #[a, b, .slice none 0 0, .slice AM q q] 26)).heap.size l AL) ∧ Hid (Below wb.heap.size wb (wM.alloc (.cells #[a, b, .slice none 0 0, .slice AM q q] 26))) :=
  ⟨_, AM, rfl, h0.size, by simp, Lib.hid (cells4 (Blk.new _ _ _)), Lib.hid ((hI.alloc (Nat.le_refl _) _).more h35 (by simp)), Lib.hid (bel_alloc h0 _)⟩
theorem finB {wb wM V : World} {l : List Itm} {AM : Option Addr} {a b z0 z1 z2 z3 : Value} {q n9 : Nat} (hk : Blk wM n9 26 #[z0, z1, z2, z3]) (hn : n9 < V.heap.size) (hb : wb.heap.size ≤ n9) (h0 : Below wb.heap.size wb wM) (h35 : wb.heap.size ≤ V.heap.size) (hI : ItemsV wM V.heap.size wM.heap.size l AM) :
    ∃ (m9 : Nat) (AL : Option Addr), Value.pointer (some ⟨n9, 0, none⟩) = .pointer (some ⟨m9, 0, none⟩) ∧ wb.heap.size ≤ m9 ∧ m9 < ((((wM.setCell ⟨n9, 0, none⟩ a).setCell ⟨n9, 1, none⟩ b).setCell ⟨n9, 2, none⟩ (.slice none 0 0)).setCell ⟨n9, 3, none⟩ (.slice AM q q)).heap.size ∧
      Hid (Cells ((((wM.setCell ⟨n9, 0, none⟩ a).setCell ⟨n9, 1, none⟩ b).setCell ⟨n9, 2, none⟩ (.slice none 0 0)).setCell ⟨n9, 3, none⟩ (.slice AM q q)) m9 a b (.slice none 0 0) (.slice AL q q)) ∧
      Hid (ItemsV ((((wM.setCell ⟨n9, 0, none⟩ a).setCell ⟨n9, 1, none⟩ b).setCell ⟨n9, 2, none⟩ (.slice none 0 0)).setCell ⟨n9, 3, none⟩ (.slice AM q q)) wb.heap.size ((((wM.setCell ⟨n9, 0, none⟩ a).setCell ⟨n9, 1, none⟩ b).setCell ⟨n9, 2, none⟩ (.slice none 0 0)).setCell ⟨n9, 3, none⟩ (.slice AM q q)).heap.size l AL) ∧
      Hid (Below wb.heap.size wb ((((wM.setCell ⟨n9, 0, none⟩ a).setCell ⟨n9, 1, none⟩ b).setCell ⟨n9, 2, none⟩ (.slice none 0 0)).setCell ⟨n9, 3, none⟩ (.slice AM q q))) :=
  ⟨n9, AM, rfl, hb, (blk_s hk _ _ _ _).lt, Lib.hid (cells4 (blk_s hk _ _ _ _)), Lib.hid ((hI.set4 (.inl hn) _ _ _ _).more h35 (by simp [World.setCell])), Lib.hid (B4s h0 hb _ _ _ _)⟩

set_option maxRecDepth 100000 in
set_option maxHeartbeats 4000000 in
theorem walk (n : Int) (A : Option Addr) (c : Nat) (xs : List Int) (s : ByteArray) (W : World) (hn : 0 ≤ n ∧ n ≤ 18446744073709551615)
    (hl : xs.length ≤ c) (hm : c ≤ maxLen) (hs : Lst W W.heap.size A (u8s xs)) (hb : St.bts xs) (hss : s.size ≤ maxLen) (hT : Tabs W) :
    Calls Tryd.prog 5 #[.int .u64 n, .slice A xs.length c, .string s] W fun e W' => e = .returned (.bool true) ∧ Below W.heap.size W W' := by
  have HT := Lib.hid hT
  have HS := Lib.hid hs
  have HX := Lib.hid hb
  clear hT hs hb
  have HMx := Lib.hid hm
  unfold maxLen at hm hss
  obtain ⟨i0, hi0, hz0, hz1, hz2⟩ := info_parts CbCopy.info_u8
  go_enter Tryd.func5, Tryd.ntmps5
  by_cases hbl : (500 : Int) < xs.length
  · have t0 : decide ((500 : Int) < (xs.length : Int)) = true := decide_eq_true hbl
    go_wp2_with fail
    refine (alive_any W HT.out).mono ?_
    rintro e w2 ⟨rfl, hb2⟩
    have HB2 := Lib.hid hb2
    clear hb2
    go_wp2_with fail
    go_ret
    exact ⟨rfl, HB2.out⟩
  · have t0 : decide ((500 : Int) < (xs.length : Int)) = false := decide_eq_false hbl
    by_cases hbs : (500 : Int) < s.size
    · have t1 : decide ((500 : Int) < (s.size : Int)) = true := decide_eq_true hbs
      go_wp2_with fail
      refine (alive_any W HT.out).mono ?_
      rintro e w2 ⟨rfl, hb2⟩
      have HB2 := Lib.hid hb2
      clear hb2
      go_wp2_with fail
      go_ret
      exact ⟨rfl, HB2.out⟩
    · have t1 : decide ((500 : Int) < (s.size : Int)) = false := decide_eq_false hbs
      have hx5 : xs.length ≤ 500 := by omega
      have hs5 : s.size ≤ 500 := by omega
      have hn5 := nums_length s
      have hn51 : (nums s).length ≤ 500 := by omega
      clear hn5
      have hmx : ∀ k, k ≤ 2000 → k ≤ maxLen := fun k hk => by unfold maxLen; omega
      have HMX := Lib.hid hmx
      clear hmx
      go_wp2_with first
        | (at_builtin
           refine wpList_append_lst _ rfl (.tmp 21) (.tmp 22) _ (by rfl) W.heap.size 5 i0 _ 1 Tryd.underlying23 hi0 hz0 hz1 hz2 rfl (.slice (some ⟨W.heap.size, 0, none⟩) 0 0) 0 [] (by rfl)
             (World.ownsRow_lit W #[] 0 (Nat.le_refl _) (HMX.out 0 (by omega)) rfl) W.heap.size A xs.length c (u8s xs) (by rfl) (by simp) (HS.out.below ((Below.refl W.heap.size W).alloc (Nat.le_refl _) _)) (u8_one xs) (HMX.out _ (by omega)) (by omega) (by simp) ?_
           intro v2 w2 hown2 hg2 hat2
           have hb2 : Below W.heap.size W w2 := ((Below.refl _ _).alloc (Nat.le_refl _) _).grown hg2 (by simp) (fun k hk => by simp [Value.ownBlock] at hk; omega)
           have HO2 := Lib.hid hown2
           have HB2 := Lib.hid hb2
           clear hown2 hg2 hat2 hb2)
        | fail
      have ho2 : w2.ownsRow W.heap.size 5 1 v2 xs.length (u8s xs) := by simpa using HO2.out
      obtain ⟨Ao, co, rfl, hco, hcm, -⟩ := own_slice ho2
      have HO := Lib.hid ho2
      clear ho2 HO2 t0 t1 hbl
      refine (bytes_own Ao w2.heap.size co xs w2 (Lst.of_own HO.out) (Nat.le_refl _) (by omega)).mono ?_
      rintro e w3 ⟨Ap, rfl, HP3, HWp3, hb3⟩
      have HWo3 := Lib.hid ((Wri.of_own HO.out).below hb3 (Nat.le_refl _))
      have hz2' := HB2.out.size
      have hz3 := hb3.size
      have HO3 := Lib.hid (own_later HO.out hb3)
      have HB3 := Lib.hid (below_next HB2.out hz2' hb3)
      have HPb := Lib.hid (Blk.new w3 26 #[.int .i64 2, .int .u64 0, .slice Ap xs.length xs.length, .slice none 0 0])
      have hba := (Below.refl w3.heap.size w3).alloc (Nat.le_refl _) (.cells #[.int .i64 2, .int .u64 0, .slice Ap xs.length xs.length, .slice none 0 0] 26)
      have HOb := Lib.hid (own_later HO3.out hba)
      have HBb := Lib.hid (HB3.out.alloc (by omega) (.cells #[.int .i64 2, .int .u64 0, .slice Ap xs.length xs.length, .slice none 0 0] 26))
      have HPs := Lib.hid (HP3.out.below hba)
      have HWpb := Lib.hid (HWp3.out.below hba (Nat.le_refl _))
      have HWob := Lib.hid (HWo3.out.below hba (by omega))
      have HTb := Lib.hid (HT.out.below HBb.out (Nat.le_refl _))
      have hzb : (w3.alloc (.cells #[.int .i64 2, .int .u64 0, .slice Ap xs.length xs.length, .slice none 0 0] 26)).heap.size = w3.heap.size + 1 := by simp
      clear hb3 hba HO HB2 HO3 HB3 HP3 HWp3 HWo3
      go_upto_region 5 with (fail)
      generalize w3.alloc (.cells #[.int .i64 2, .int .u64 0, .slice Ap xs.length xs.length, .slice none 0 0] 26) = wb at *
      have hzb1 := Nat.le_of_eq hzb
      have hzb2 := Nat.le_of_eq hzb.symm
      clear hzb
      go_cut [9] from 26 to 35 (fun p9 wx => ∃ (n9 : Nat) (AL : Option Addr), p9 = .pointer (some ⟨n9, 0, none⟩) ∧ wb.heap.size ≤ n9 ∧ n9 < wx.heap.size ∧ Hid (Cells wx n9 (.int .i64 4) (.int .u64 0) (.slice none 0 0) (.slice AL 4 4)) ∧ Hid (ItemsV wx wb.heap.size wx.heap.size (parts n xs s) AL) ∧ Hid (Below wb.heap.size wb wx))
      case first =>
        have KC := Lib.hid (fun (W' : World) (hW : Below wb.heap.size wb W') => cells4 (HPb.out.below hW HPb.out.lt))
        have CN := Lib.hid (fun (W' : World) => num_any n W' hn.1 hn.2)
        have CT := Lib.hid (fun (W' : World) => text_any s W' (by omega))
        have CL1 := Lib.hid (fun (W' : World) (g : Nat) (hW : Below wb.heap.size wb W') (hk : Blk W' g 26 #[.int .i64 2, .int .u64 0, .slice Ap xs.length xs.length, .slice none 0 0]) => show Calls Tryd.prog 24 #[.slice (some ⟨g, 0, none⟩) 1 1] W' (fun e w' => ∃ A', e = .returned (.agg #[.int .i64 4, .int .u64 0, .slice none 0 0, .slice A' 1 1]) ∧ Hid (ItemsV w' W'.heap.size w'.heap.size [pB xs] A') ∧ Below W'.heap.size W' w') from CbList.list_any [pB xs] (some ⟨g, 0, none⟩) W'.heap.size 1 W' (items1 hk.lt hk ((HPs.out.below (hW.mono (by omega))).more (Nat.zero_le _) (by have := hW.size; omega)) HX.out (HMX.out _ (by omega))) (Nat.le_refl _) (Nat.le_refl _) (by unfold maxLen; omega) (by simp [CbList.wides, CbList.wide, pB]; omega) (by simp [sizes, size, pB]) (by simp [deeps, deep, pB]))
        have CL2 := Lib.hid (fun (W' : World) (g : Nat) (At AL : Option Addr) (hW : Below wb.heap.size wb W') (ht : Seg W' 0 W'.heap.size At (u8s (nums s))) (hL : ItemsV W' 0 W'.heap.size [pB xs] AL) (hk : Blk W' g 26 #[.int .i64 0, .int .u64 n, .slice none 0 0, .slice none 0 0, .int .i64 2, .int .u64 0, .slice Ap xs.length xs.length, .slice none 0 0, .int .i64 3, .int .u64 0, .slice At (nums s).length (nums s).length, .slice none 0 0, .int .i64 4, .int .u64 0, .slice none 0 0, .slice AL 1 1]) =>
          show Calls Tryd.prog 24 #[.slice (some ⟨g, 0, none⟩) 4 4] W' (fun e w' => ∃ A', e = .returned (.agg #[.int .i64 4, .int .u64 0, .slice none 0 0, .slice A' 4 4]) ∧ Hid (ItemsV w' W'.heap.size w'.heap.size (parts n xs s) A') ∧ Below W'.heap.size W' w') from CbList.list_any (parts n xs s) (some ⟨g, 0, none⟩) W'.heap.size 4 W' (items4 hn hk.lt hk ((HPs.out.below (hW.mono (by omega))).more (Nat.zero_le _) (by have := hW.size; omega)) (ht.more (Nat.zero_le _) (Nat.le_refl _)) (hL.more (Nat.zero_le _) (Nat.le_refl _)) HX.out (HMX.out _ (by omega)) (HMX.out _ (by omega))) (Nat.le_refl _) (Nat.le_refl _) (by unfold maxLen; omega) (by simp [CbList.wides, CbList.wide, parts, pB]; omega) (by simp [sizes, size, parts, pB]) (by simp [deeps, deep, parts, pB]))
        go_region_held3 (fun w' => w'.cell? ⟨w3.heap.size, 0, none⟩ = some (.int .i64 2) ∧ w'.cell? ⟨w3.heap.size, 1, none⟩ = some (.int .u64 0) ∧ w'.cell? ⟨w3.heap.size, 2, none⟩ = some (.slice Ap xs.length xs.length) ∧ w'.cell? ⟨w3.heap.size, 3, none⟩ = some (.slice none 0 0))
          (first | with_reducible exact KC.out _ (B4s HBM.out (by omega) _ _ _ _) | with_reducible exact KC.out _ (by repeat' (first | with_reducible exact HBM.out | with_reducible exact HBL.out | with_reducible exact HBT.out | with_reducible exact HBN.out | with_reducible exact Below.refl _ _ | with_reducible refine bel_drew ?_ | with_reducible refine bel_alloc ?_ _)) | fail)
          (first | (go_at_call 25; (refine (CN.out _).mono ?_); rintro e wN ⟨rfl, hbN⟩; have HBN := Lib.hid (bel_call (a := wb) (by repeat' (first | with_reducible exact HBM.out | with_reducible exact HBL.out | with_reducible exact HBT.out | with_reducible exact HBN.out | with_reducible exact Below.refl _ _ | with_reducible refine bel_drew ?_ | with_reducible refine bel_alloc ?_ _)) hbN); have hsHBN := HBN.out.size; (try (first | (with_reducible have K32 := Lib.hid (Blk.next (Blk.new wb 26 #[.int .i64 2, .int .u64 0, .slice Ap xs.length xs.length, .slice none 0 0]).drew hbN)) | (with_reducible have K32 := Lib.hid (Blk.next ((Blk.new wb 26 #[.int .i64 2, .int .u64 0, .slice Ap xs.length xs.length, .slice none 0 0]).alloc _).drew hbN)) | (with_reducible have K32 := Lib.hid (Blk.next (new1 wb _ 26 #[.int .i64 2, .int .u64 0, .slice Ap xs.length xs.length, .slice none 0 0]).drew hbN)) | fail)); (try (first | (with_reducible have K9 := Lib.hid (Blk.next (Blk.new wb 26 #[.int .i64 0, .int .u64 0, .slice none 0 0, .slice none 0 0]).drew hbN)) | (with_reducible have K9 := Lib.hid (Blk.next ((Blk.new wb 26 #[.int .i64 0, .int .u64 0, .slice none 0 0, .slice none 0 0]).alloc _).drew hbN)) | (with_reducible have K9 := Lib.hid (Blk.next (new1 wb _ 26 #[.int .i64 0, .int .u64 0, .slice none 0 0, .slice none 0 0]).drew hbN)) | fail)); clear hbN) | (go_at_call 26; (refine (CT.out _).mono ?_); rintro e wT ⟨At, rfl, HSt', hbT⟩; have HSt := Lib.hid (HSt'.out.more (Nat.zero_le _) (Nat.le_refl _)); have HBT := Lib.hid (bel_call (a := wb) (by repeat' (first | with_reducible exact HBM.out | with_reducible exact HBL.out | with_reducible exact HBT.out | with_reducible exact HBN.out | with_reducible exact Below.refl _ _ | with_reducible refine bel_drew ?_ | with_reducible refine bel_alloc ?_ _)) hbT); have hsHBT := HBT.out.size; (try (first | (with_reducible have K32 := Lib.hid (Blk.next K32.out hbT)) | (with_reducible have K32 := Lib.hid (Blk.next (K32.out.alloc _) hbT)) | (with_reducible have K32 := Lib.hid (Blk.next (Blk.new wN 26 #[.int .i64 2, .int .u64 0, .slice Ap xs.length xs.length, .slice none 0 0]) hbT)) | (with_reducible have K32 := Lib.hid (Blk.next ((Blk.new wN 26 #[.int .i64 2, .int .u64 0, .slice Ap xs.length xs.length, .slice none 0 0]).alloc _) hbT)) | (with_reducible have K32 := Lib.hid (Blk.next (new1 wN _ 26 #[.int .i64 2, .int .u64 0, .slice Ap xs.length xs.length, .slice none 0 0]) hbT)) | fail)); (try (first | (with_reducible have K9 := Lib.hid (Blk.next K9.out hbT)) | (with_reducible have K9 := Lib.hid (Blk.next (K9.out.alloc _) hbT)) | (with_reducible have K9 := Lib.hid (Blk.next (Blk.new wN 26 #[.int .i64 0, .int .u64 0, .slice none 0 0, .slice none 0 0]) hbT)) | (with_reducible have K9 := Lib.hid (Blk.next ((Blk.new wN 26 #[.int .i64 0, .int .u64 0, .slice none 0 0, .slice none 0 0]).alloc _) hbT)) | (with_reducible have K9 := Lib.hid (Blk.next (new1 wN _ 26 #[.int .i64 0, .int .u64 0, .slice none 0 0, .slice none 0 0]) hbT)) | fail)); clear hbT HSt') | (go_at_call 24; (with_reducible refine (CL2.out _ _ _ _ (by repeat' (first | with_reducible exact HBM.out | with_reducible exact HBL.out | with_reducible exact HBT.out | with_reducible exact HBN.out | with_reducible exact Below.refl _ _ | with_reducible refine bel_drew ?_ | with_reducible refine bel_alloc ?_ _)) (segB HSt.out (by repeat' (first | with_reducible exact HTL.out | with_reducible exact Below.refl _ _ | with_reducible refine bel_drew ?_ | with_reducible refine bel_alloc ?_ _))) (itemsB HIL.out (by repeat' (first | with_reducible exact Below.refl _ _ | with_reducible refine bel_drew ?_ | with_reducible refine bel_alloc ?_ _))) (by first | with_reducible exact (Blk.new wL 26 #[.int .i64 0, .int .u64 n, .slice none 0 0, .slice none 0 0, .int .i64 2, .int .u64 0, .slice Ap xs.length xs.length, .slice none 0 0, .int .i64 3, .int .u64 0, .slice At (nums s).length (nums s).length, .slice none 0 0, .int .i64 4, .int .u64 0, .slice none 0 0, .slice AL 1 1]) | with_reducible exact ((Blk.new wL 26 #[.int .i64 0, .int .u64 n, .slice none 0 0, .slice none 0 0, .int .i64 2, .int .u64 0, .slice Ap xs.length xs.length, .slice none 0 0, .int .i64 3, .int .u64 0, .slice At (nums s).length (nums s).length, .slice none 0 0, .int .i64 4, .int .u64 0, .slice none 0 0, .slice AL 1 1]).alloc _) | with_reducible exact (new1 wL _ 26 #[.int .i64 0, .int .u64 n, .slice none 0 0, .slice none 0 0, .int .i64 2, .int .u64 0, .slice Ap xs.length xs.length, .slice none 0 0, .int .i64 3, .int .u64 0, .slice At (nums s).length (nums s).length, .slice none 0 0, .int .i64 4, .int .u64 0, .slice none 0 0, .slice AL 1 1]))).mono ?_); rintro e wM ⟨AM, rfl, HIM, hbM⟩; have HBM := Lib.hid (bel_call (a := wb) (by repeat' (first | with_reducible exact HBM.out | with_reducible exact HBL.out | with_reducible exact HBT.out | with_reducible exact HBN.out | with_reducible exact Below.refl _ _ | with_reducible refine bel_drew ?_ | with_reducible refine bel_alloc ?_ _)) hbM); have h35 := bel_size (a := wb) (by repeat' (first | with_reducible exact HBM.out | with_reducible exact HBL.out | with_reducible exact HBT.out | with_reducible exact HBN.out | with_reducible exact Below.refl _ _ | with_reducible refine bel_drew ?_ | with_reducible refine bel_alloc ?_ _)) hbM; (try (first | (with_reducible have K9p := blk_both K9.out hbM; have lK9w := K9p.1; have K9 := Lib.hid K9p.2; clear K9p) | (with_reducible have K9p := blk_both (K9.out.alloc _) hbM; have lK9w := K9p.1; have K9 := Lib.hid K9p.2; clear K9p) | (with_reducible have K9p := blk_both (Blk.new wL 26 #[.int .i64 0, .int .u64 0, .slice none 0 0, .slice none 0 0]) hbM; have lK9w := K9p.1; have K9 := Lib.hid K9p.2; clear K9p) | (with_reducible have K9p := blk_both ((Blk.new wL 26 #[.int .i64 0, .int .u64 0, .slice none 0 0, .slice none 0 0]).alloc _) hbM; have lK9w := K9p.1; have K9 := Lib.hid K9p.2; clear K9p) | (with_reducible have K9p := blk_both (new1 wL _ 26 #[.int .i64 0, .int .u64 0, .slice none 0 0, .slice none 0 0]) hbM; have lK9w := K9p.1; have K9 := Lib.hid K9p.2; clear K9p) | (with_reducible have K9p := blk_both ((K9.out.alloc _).alloc _) hbM; have lK9w := K9p.1; have K9 := Lib.hid K9p.2; clear K9p) | fail)); (try (first | (have K9g := K9; obtain ⟨⟨f0, f1, f2, f3⟩, f4, f5, f6, f7⟩ := Four.of K9g.out) | fail)); clear hbM) | (go_at_call 24; (with_reducible refine (CL1.out _ _ (by repeat' (first | with_reducible exact HBM.out | with_reducible exact HBL.out | with_reducible exact HBT.out | with_reducible exact HBN.out | with_reducible exact Below.refl _ _ | with_reducible refine bel_drew ?_ | with_reducible refine bel_alloc ?_ _)) (by first | with_reducible exact K32.out | with_reducible exact (K32.out.alloc _) | with_reducible exact (Blk.new wT 26 #[.int .i64 2, .int .u64 0, .slice Ap xs.length xs.length, .slice none 0 0]) | with_reducible exact ((Blk.new wT 26 #[.int .i64 2, .int .u64 0, .slice Ap xs.length xs.length, .slice none 0 0]).alloc _) | with_reducible exact (new1 wT _ 26 #[.int .i64 2, .int .u64 0, .slice Ap xs.length xs.length, .slice none 0 0]))).mono ?_); rintro e wL ⟨AL, rfl, HIL', hbL⟩; have HIL := Lib.hid (HIL'.out.more (Nat.zero_le _) (Nat.le_refl _)); have HBL := Lib.hid (bel_call (a := wb) (by repeat' (first | with_reducible exact HBM.out | with_reducible exact HBL.out | with_reducible exact HBT.out | with_reducible exact HBN.out | with_reducible exact Below.refl _ _ | with_reducible refine bel_drew ?_ | with_reducible refine bel_alloc ?_ _)) hbL); have hsHBL := HBL.out.size; have HTL := Lib.hid (bel_call (a := wT) (by repeat' (first | with_reducible exact Below.refl _ _ | with_reducible refine bel_drew ?_ | with_reducible refine bel_alloc ?_ _)) hbL); (try (first | (with_reducible have K9 := Lib.hid (Blk.next K9.out hbL)) | (with_reducible have K9 := Lib.hid (Blk.next (K9.out.alloc _) hbL)) | (with_reducible have K9 := Lib.hid (Blk.next (Blk.new wT 26 #[.int .i64 0, .int .u64 0, .slice none 0 0, .slice none 0 0]) hbL)) | (with_reducible have K9 := Lib.hid (Blk.next ((Blk.new wT 26 #[.int .i64 0, .int .u64 0, .slice none 0 0, .slice none 0 0]).alloc _) hbL)) | (with_reducible have K9 := Lib.hid (Blk.next (new1 wT _ 26 #[.int .i64 0, .int .u64 0, .slice none 0 0, .slice none 0 0]) hbL)) | fail)); clear hbL HIL') | fail)
        all_goals
          go_wp2_with fail
          go_meet
          first | with_reducible exact finA HBM.out h35 HIM.out | with_reducible exact finB K9.out lK9w (by omega) HBM.out h35 HIM.out
      case rest =>
        obtain ⟨n9, AL, rfl, hn9, hn9', HC9, HIc, HBc⟩ := hcut
        have hzc : wb.heap.size ≤ wc.heap.size := HBc.out.size
        have HWoc := Lib.hid (HWob.out.below HBc.out (by omega))
        have HWpc := Lib.hid (HWpb.out.below HBc.out (by omega))
        have HPc := Lib.hid (HPb.out.below HBc.out HPb.out.lt)
        have HKc : Hid (Kp W wc wc w3.heap.size) := Lib.hid ⟨below_next HBb.out (by omega) HBc.out, fun _ _ => rfl, Nat.le_refl _⟩
        have hx6 : xs.length ≤ co := hco
        have hco' := hcm
        unfold maxLen at hco'
        clear HWob HWpb HPb HOb HPs HTb HBb
        go_wp2_with fail
        go_loopw [10] (fun i wr => ∃ (k : Nat), k ≤ xs.length ∧ i = .int .i64 k ∧ Hid (Wri wr W.heap.size w2.heap.size Ao xs.length) ∧ Hid (Wri wr w2.heap.size w3.heap.size Ap xs.length) ∧ Hid (Kp W wc wr w3.heap.size)) (fun i _ => xs.length - (intOf i).toNat)
        case atStart => exact ⟨0, by omega, rfl, HWoc, HWpc, HKc⟩
        case round =>
          obtain ⟨k, hk, rfl, HWo, HWp, HKp⟩ := hrel
          clear HWoc HWpc HKc
          by_cases hlt : k < xs.length
          · obtain ⟨g, y, rfl, hg1, hg2, e0, e1⟩ := HWo.out.at_ hlt
            have j0 : (0 : Int) ≤ (k : Int) := by omega
            have j1 : (k : Int) < (xs.length : Int) := by omega
            have HW1 := Lib.hid (fun (z : Int) => HWo.out.set_ g k z)
            have HW2 := Lib.hid (fun (z : Int) => HWp.out.set_ g k z)
            have HK2 := Lib.hid (fun (u : Value) => HKp.out.set_ g k u hg1 (by omega))
            clear HWo HWp HKp
            go_wp2_with fail
            go_roundw
            case rel => exact ⟨k + 1, by omega, by go_num, Lib.hid (HW1.out _), Lib.hid (HW2.out _), Lib.hid (HK2.out _)⟩
            case measure => simp [intOf]; omega
          · obtain rfl : k = xs.length := by omega
            go_wp2_with fail
            go_loopw [11] (fun i w5 => ∃ (k : Nat), k ≤ xs.length ∧ i = .int .i64 k ∧ Hid (Wri w5 w2.heap.size w3.heap.size Ap xs.length) ∧ Hid (Kp W wc w5 w3.heap.size)) (fun i _ => xs.length - (intOf i).toNat)
            case atStart => exact ⟨0, by omega, rfl, HWp, HKp⟩
            case round =>
              clear HWo HWp HKp
              obtain ⟨k, hk, rfl, HWp, HKp⟩ := hrel
              have x2 : wr.cell? ⟨w3.heap.size, 2, none⟩ = some (.slice Ap xs.length xs.length) := (HKp.out.cells ⟨w3.heap.size, 2, none⟩ (Nat.le_refl _)).trans (cells4 HPc.out).2.2.1
              by_cases hlt : k < xs.length
              · obtain ⟨g, y, rfl, hg1, hg2, e0, e1⟩ := HWp.out.at_ hlt
                have j0 : (0 : Int) ≤ (k : Int) := by omega
                have j1 : (k : Int) < (xs.length : Int) := by omega
                have HW2 := Lib.hid (fun (z : Int) => HWp.out.set_ g k z)
                have HK2 := Lib.hid (fun (u : Value) => HKp.out.set_ g k u (by omega) (by omega))
                clear HWp HKp
                go_wp2_with fail
                go_region
                go_wp2_with fail
                go_roundw
                case rel => exact ⟨k + 1, by omega, by go_num, Lib.hid (HW2.out _).drew, Lib.hid (HK2.out _).drew⟩
                case measure => simp [intOf]; omega
              · obtain rfl : k = xs.length := by omega
                have HI6 := Lib.hid (HIc.out.keep (fun p h1 _ => HKp.out.cells p (by omega)))
                obtain ⟨b, o, A1, c1, A2, c2, b3, o3, c3, A4, c4, rfl, hbl, hbl3, ⟨e1, e2, e3, e4, e5, e6, e7⟩, l1, l2, l4, h31, h32⟩ := parts_at HI6.out
                have hzk : wc.heap.size ≤ wr.heap.size := HKp.out.size
                have HC6 := Lib.hid (show Cells wr n9 (.int .i64 4) (.int .u64 0) (.slice none 0 0) (.slice (some ⟨b, o, none⟩) 4 4) from ⟨(HKp.out.cells ⟨n9, 0, none⟩ (by show w3.heap.size ≤ n9; omega)).trans HC9.out.1, (HKp.out.cells ⟨n9, 1, none⟩ (by show w3.heap.size ≤ n9; omega)).trans HC9.out.2.1, (HKp.out.cells ⟨n9, 2, none⟩ (by show w3.heap.size ≤ n9; omega)).trans HC9.out.2.2.1, (HKp.out.cells ⟨n9, 3, none⟩ (by show w3.heap.size ≤ n9; omega)).trans HC9.out.2.2.2⟩)
                obtain ⟨d0, d1, d2, d3⟩ := HC6.out
                have HL1 := Lib.hid l1
                have HL2 := Lib.hid l2
                have HL4 := Lib.hid l4
                have HE := Lib.hid (And.intro e1 (And.intro e2 (And.intro e3 (And.intro e4 (And.intro e5 (And.intro e6 e7))))))
                unfold maxLen at h32
                clear l1 l2 l4 HWp
                have HKB := Lib.hid HKp.out.below
                have hzW : W.heap.size ≤ wr.heap.size := HKB.out.size
                have HS6 := Lib.hid (HS.out.below HKB.out)
                have HT6 := Lib.hid (HT.out.below HKB.out (Nat.le_refl _))
                have KC := Lib.hid (fun (w' : World) (hW : Below wr.heap.size wr w') => show w'.cell? ⟨n9, 0, none⟩ = some (.int .i64 4) ∧ w'.cell? ⟨n9, 3, none⟩ = some (.slice (some ⟨b, o, none⟩) 4 4) ∧ w'.cell? ⟨b, o + 1, none⟩ = some (.int .u64 n) ∧ w'.cell? ⟨b, o + 4, none⟩ = some (.int .i64 2) ∧ w'.cell? ⟨b, o + 4 + 2, none⟩ = some (.slice A1 xs.length c1) ∧ w'.cell? ⟨b, o + 8, none⟩ = some (.int .i64 3) ∧ w'.cell? ⟨b, o + 8 + 2, none⟩ = some (.slice A2 (nums s).length c2) ∧ w'.cell? ⟨b, o + 12 + 3, none⟩ = some (.slice (some ⟨b3, o3, none⟩) 1 c3) ∧ w'.cell? ⟨b3, o3 + 2, none⟩ = some (.slice A4 xs.length c4) ∧ (convert 23 9 (.slice A xs.length c)).run Tryd.prog w' = .ok (.string (strOfNums xs)) w' ∧ (convert 23 9 (.slice A1 xs.length c1)).run Tryd.prog w' = .ok (.string (strOfNums xs)) w' ∧ (convert 23 9 (.slice A2 (nums s).length c2)).run Tryd.prog w' = .ok (.string (s)) w' ∧ (convert 23 9 (.slice A4 xs.length c4)).run Tryd.prog w' = .ok (.string (strOfNums xs)) w' from
                  ⟨(hW.cell (p := ⟨n9, 0, none⟩) (by show n9 < _; omega)).trans d0, (hW.cell (p := ⟨n9, 3, none⟩) (by show n9 < _; omega)).trans d3, (hW.cell (p := ⟨b, o + 1, none⟩) (by show b < _; omega)).trans e1, (hW.cell (p := ⟨b, o + 4, none⟩) (by show b < _; omega)).trans e2, (hW.cell (p := ⟨b, o + 4 + 2, none⟩) (by show b < _; omega)).trans e3, (hW.cell (p := ⟨b, o + 8, none⟩) (by show b < _; omega)).trans e4, (hW.cell (p := ⟨b, o + 8 + 2, none⟩) (by show b < _; omega)).trans e5, (hW.cell (p := ⟨b, o + 12 + 3, none⟩) (by show b < _; omega)).trans e6, (hW.cell (p := ⟨b3, o3 + 2, none⟩) (by show b3 < _; omega)).trans e7,
                   run_string (P := Tryd.prog) (HS6.out.below (hW.mono hzW)) 23 5 9 Tryd.underlying23 Tryd.underlying5 Tryd.underlying9 c, run_string (P := Tryd.prog) (HL1.out.below (hW.mono hzk)) 23 5 9 Tryd.underlying23 Tryd.underlying5 Tryd.underlying9 c1, by have h := run_string (P := Tryd.prog) (HL2.out.below (hW.mono hzk)) 23 5 9 Tryd.underlying23 Tryd.underlying5 Tryd.underlying9 c2; rw [nums_str] at h; exact h, run_string (P := Tryd.prog) (HL4.out.below (hW.mono hzk)) 23 5 9 Tryd.underlying23 Tryd.underlying5 Tryd.underlying9 c4⟩)
                have CAl := Lib.hid (fun (w' : World) (hW : Below wr.heap.size wr w') => alive_any w' (HT6.out.below hW (Nat.le_refl _)))
                have HBd := Lib.hid ((Below.refl wr.heap.size wr).drew)
                have hw1 : (n == n) = true := by simp
                go_wp2_with fail
                clear d0 d1 d2 d3 e1 e2 e3 e4 e5 e6 e7 HE
                simp only [List.append_eq, List.cons_append, List.nil_append]
                go_region_held3 (fun w' => w'.cell? ⟨n9, 0, none⟩ = some (.int .i64 4) ∧ w'.cell? ⟨n9, 3, none⟩ = some (.slice (some ⟨b, o, none⟩) 4 4) ∧ w'.cell? ⟨b, o + 1, none⟩ = some (.int .u64 n) ∧ w'.cell? ⟨b, o + 4, none⟩ = some (.int .i64 2) ∧ w'.cell? ⟨b, o + 4 + 2, none⟩ = some (.slice A1 xs.length c1) ∧ w'.cell? ⟨b, o + 8, none⟩ = some (.int .i64 3) ∧ w'.cell? ⟨b, o + 8 + 2, none⟩ = some (.slice A2 (nums s).length c2) ∧ w'.cell? ⟨b, o + 12 + 3, none⟩ = some (.slice (some ⟨b3, o3, none⟩) 1 c3) ∧ w'.cell? ⟨b3, o3 + 2, none⟩ = some (.slice A4 xs.length c4) ∧ (convert 23 9 (.slice A xs.length c)).run Tryd.prog w' = .ok (.string (strOfNums xs)) w' ∧ (convert 23 9 (.slice A1 xs.length c1)).run Tryd.prog w' = .ok (.string (strOfNums xs)) w' ∧ (convert 23 9 (.slice A2 (nums s).length c2)).run Tryd.prog w' = .ok (.string (s)) w' ∧ (convert 23 9 (.slice A4 xs.length c4)).run Tryd.prog w' = .ok (.string (strOfNums xs)) w')
                  (first | exact KC.out _ HBd.out | exact KC.out _ HB7.out | fail)
                  (first | (go_at_call 13; (refine (CAl.out _ HBd.out).mono ?_); rintro e w7 ⟨rfl, hb7⟩; have HB7 := Lib.hid (below_next HBd.out HBd.out.size hb7); clear hb7) | fail)
                have HBE := Lib.hid (below_next HKB.out hzW HB7.out)
                clear HB7 KC CAl
                go_wp2_with fail
                go_ret
                exact ⟨rfl, HBE.out⟩
end Go.Proofs.YtoieadbifhealaaDoor.CborMade
