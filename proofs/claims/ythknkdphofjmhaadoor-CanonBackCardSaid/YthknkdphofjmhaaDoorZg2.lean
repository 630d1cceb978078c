/- Texts of my own, laid together: Eid, Rune, Made, EidLess, Name. -/
import Derived.Test.YthknkdphofjmhaaDoorProg
import Derived.Test.YthknkdphofjmhaaDoorZg1
import Derived.Test.YthknkdphofjmhaaDoorShelf
import Derived.WalkKit
import Derived.WalkSpells
import Derived.Lib.Hide
import Derived.Outline
import Derived.Laws.StructEq
import Derived.Laws.Pointers
import Derived.Laws.RangeString
import Derived.Laws.RangeAny
import Derived.Laws.Runes
import Derived.IntWalk
import Derived.Deep.QuietTactic
import Derived.BigQuiet
import Derived.BigRegion
import Derived.Deep.RegionLaw
import Derived.Lib.OthersKept
import Derived.WalkSmall
import Derived.Deep.RegionHeld3
/- Names: what a name is, its kind; the contracts of eid.kind, rightNumbers. -/
namespace Go.Proofs.YthknkdphofjmhaaDoor.Eid
open Go.RowKit Wd

/-- A name. -/
structure Nm where
  ipn : Bool
  node : Int
  service : Int
  host : ByteArray
  demux : ByteArray
/-- Its bounds. -/
structure Nm.ok (x : Nm) : Prop where
  n0 : 0 ≤ x.node
  n1 : x.node ≤ 18446744073709551615
  s0 : 0 ≤ x.service
  s1 : x.service ≤ 18446744073709551615
  h : x.host.size ≤ maxLen
  d : x.demux.size ≤ maxLen
abbrev Nm.cells (x : Nm) : Array Value := #[.bool x.ipn, .int .u64 x.node, .int .u64 x.service, .string x.host, .string x.demux]
abbrev Nm.val (x : Nm) : Value := .agg x.cells
/-- The kind of a name. -/
def kd (x : Nm) : Int := if x.ipn then 1 else if x.node = 0 ∧ x.service = 0 ∧ x.host.toList = [] ∧ x.demux.toList = [] then 0 else 2

set_option maxHeartbeats 1000000 in
theorem kind_any (x : Nm) (w : World) : Calls Tryd.prog 72 #[x.val] w fun e w' => e = .returned (.int .i64 (kd x)) ∧ Below w.heap.size w w' := by
  obtain ⟨i, n, s, h, d⟩ := x
  have HB := Lib.hid (fun (o : Obj) => (Below.refl w.heap.size w).alloc (Nat.le_refl _) o)
  go_enter Tryd.func72, Tryd.ntmps72
  cases i
  · go_wp2_with fail
    all_goals
      go_ret
      refine ⟨?_, HB.out _⟩
      simp_all [kd]
      try rfl
  · go_wp2_with fail
    go_ret
    exact ⟨rfl, HB.out _⟩

/-- May the numbers of a name be? -/
def rn (x : Nm) : Bool := decide (1 ≤ x.node) && decide (x.node ≤ 4294967295) && decide (x.service ≤ 4294967295)
set_option maxHeartbeats 1000000 in
theorem rightNumbers_any (x : Nm) (w : World) : Calls Tryd.prog 88 #[x.val] w fun e w' => e = .returned (.bool (rn x)) ∧ Below w.heap.size w w' := by
  obtain ⟨i, n, s, h, d⟩ := x
  have HB := Lib.hid (fun (o : Obj) => (Below.refl w.heap.size w).alloc (Nat.le_refl _) o)
  go_enter Tryd.func88, Tryd.ntmps88
  by_cases h1 : 1 ≤ n
  · have t1 : decide (1 ≤ n) = true := decide_eq_true h1
    by_cases h2 : n ≤ 4294967295
    · have t2 : decide (n ≤ 4294967295) = true := decide_eq_true h2
      go_wp2_with fail
      go_ret
      exact ⟨ret_bool (by unfold rn; rw [t1, t2]; simp), HB.out _⟩
    · have t2 : decide (n ≤ 4294967295) = false := decide_eq_false h2
      go_wp2_with fail
      go_ret
      exact ⟨ret_bool (by unfold rn; rw [t2]; simp), HB.out _⟩
  · have t1 : decide (1 ≤ n) = false := decide_eq_false h1
    go_wp2_with fail
    go_ret
    exact ⟨ret_bool (by unfold rn; rw [t1]; simp), HB.out _⟩

/-- How two numbers compare. -/
def cI (x y : Int) : Int := if x < y then -1 else if y < x then 1 else 0

/-- The first number that is not 0. -/
def or1 : List Int → Int
  | [] => 0
  | x :: l => if x = 0 then or1 l else x
end Go.Proofs.YthknkdphofjmhaaDoor.Eid
/- The contracts of strings.IndexRune and strings.ContainsRune for a rune that is none of ASCII, in a text of one or two bytes of ASCII. -/
namespace Go.Proofs.YthknkdphofjmhaaDoor.Eid
open Go.RowKit Wd

theorem below_iter (w : World) (s : ByteArray) (p : Nat) : Below w.heap.size w (w.iter s p) := (Below.refl w.heap.size w).alloc (Nat.le_refl _) _

theorem validRune_any (r : Int) (w : World) : Calls Tryd.prog 124 #[.int .i32 r] w fun e w' => (e = .returned (.bool true) ∧ Utf8.valid r = true ∨ e = .returned (.bool false)) ∧ w' = w := by
  go_enter Tryd.func124, Tryd.ntmps124
  go_wp2_with fail
  all_goals
    go_ret
    first | exact ⟨.inl ⟨rfl, by simp [Utf8.valid]; omega⟩, rfl⟩ | exact ⟨.inr rfl, rfl⟩

set_option maxRecDepth 100000 in
set_option maxHeartbeats 2000000 in
theorem indexRune1 (r : Int) (w : World) (h0 : 128 ≤ r) (h1 : r ≤ 1114111) : Calls Tryd.prog 115 #[.string ⟨#[45]⟩, .int .i32 r] w fun e w' => e = .returned (.int .i64 (-1)) ∧ Below w.heap.size w w' := by
  have t0 : decide (0 ≤ r) = true := decide_eq_true (by omega)
  have t1 : decide (r < 128) = false := decide_eq_false (by omega)
  go_enter Tryd.func115, Tryd.ntmps115
  by_cases hr : r = 65533
  · subst hr
    go_wp2_with fail
    have hn0 : ∀ ty, (Instr.next (.pointer (some ⟨w.heap.size, 0, none⟩)) true ty).run Tryd.prog (w.iter ⟨#[45]⟩ 0) = _ := fun ty => run_next_any w ⟨#[45]⟩ 0 ty (by decide)
    have hn1 : ∀ ty, (Instr.next (.pointer (some ⟨w.heap.size, 0, none⟩)) true ty).run Tryd.prog (w.iter ⟨#[45]⟩ 1) = _ := fun ty => run_next_end w ⟨#[45]⟩ 1 ty (by decide)
    rw [show Utf8.decode ⟨#[45]⟩ 0 = (45, 1) from by decide] at hn0
    refine wp_loop_rounds 2 ?_
    rw [rounds_succ]
    go_wp2_with fail
    rw [rounds_succ]
    go_wp2_with fail
    go_ret
    exact ⟨rfl, below_iter w _ _⟩
  · have t2 : (r == 65533) = false := by simpa using hr
    go_wp2_with fail
    refine (validRune_any r w).mono ?_
    rintro e w1 ⟨⟨rfl, hb⟩ | rfl, rfl⟩
    rotate_left
    · go_wp2_with fail
      go_ret
      exact ⟨rfl, Below.refl _ _⟩
    · obtain ⟨e1, e2, e3⟩ := encode_facts r hb h0
      have hw : wrap64 (((Utf8.encode r).size : Int) - 1) = ((Utf8.encode r).size : Int) - 1 := by (unfold wrap64; omega)
      have hl : decide (((Utf8.encode r).size : Int) - 1 < 1) = false := decide_eq_false (by omega)
      go_wp2_with fail
      go_step3
      go_wp2_with fail
      refine wp_loop_rounds 1 ?_
      rw [rounds_succ]
      go_wp2_with fail
      rw [Exit.noGoto_ret]
      go_ret
      exact ⟨rfl, Below.refl _ _⟩

set_option maxRecDepth 100000 in
set_option maxHeartbeats 2000000 in
theorem indexRune2 (s : ByteArray) (hs : s.size = 2) (hs0 : (s[0]'(by omega)).toNat < 128) (hs1 : (s[1]'(by omega)).toNat < 128) (r : Int) (w : World) (h0 : 128 ≤ r) (h1 : r ≤ 1114111) : Calls Tryd.prog 115 #[.string s, .int .i32 r] w fun e w' => e = .returned (.int .i64 (-1)) ∧ Below w.heap.size w w' := by
  have t0 : decide (0 ≤ r) = true := decide_eq_true (by omega)
  have t1 : decide (r < 128) = false := decide_eq_false (by omega)
  go_enter Tryd.func115, Tryd.ntmps115
  by_cases hr : r = 65533
  · subst hr
    go_wp2_with fail
    have hn0 : ∀ ty, (Instr.next (.pointer (some ⟨w.heap.size, 0, none⟩)) true ty).run Tryd.prog (w.iter s 0) = _ := fun ty => run_next_any w s 0 ty (by omega)
    have hn1 : ∀ ty, (Instr.next (.pointer (some ⟨w.heap.size, 0, none⟩)) true ty).run Tryd.prog (w.iter s 1) = _ := fun ty => run_next_any w s 1 ty (by omega)
    have hn2 : ∀ ty, (Instr.next (.pointer (some ⟨w.heap.size, 0, none⟩)) true ty).run Tryd.prog (w.iter s 2) = _ := fun ty => run_next_end w s 2 ty (by omega)
    rw [decode_ascii s 0 (by omega) hs0] at hn0
    rw [decode_ascii s 1 (by omega) hs1] at hn1
    have k0 : (((s[0]'(by omega)).toNat : Int) == 65533) = false := by simp only [beq_eq_false_iff_ne, ne_eq]; omega
    have k1 : (((s[1]'(by omega)).toNat : Int) == 65533) = false := by simp only [beq_eq_false_iff_ne, ne_eq]; omega
    refine wp_loop_rounds 3 ?_
    rw [rounds_succ]
    go_wp2_with fail
    rw [rounds_succ]
    go_wp2_with fail
    rw [rounds_succ]
    go_wp2_with fail
    go_ret
    exact ⟨rfl, below_iter w _ _⟩
  · have t2 : (r == 65533) = false := by simpa using hr
    go_wp2_with fail
    refine (validRune_any r w).mono ?_
    rintro e w1 ⟨⟨rfl, hb⟩ | rfl, rfl⟩
    rotate_left
    · go_wp2_with fail
      go_ret
      exact ⟨rfl, Below.refl _ _⟩
    · obtain ⟨e1, e2, e3⟩ := encode_facts r hb h0
      have hl1 : decide ((1 : Int) < (s.size : Int)) = true := decide_eq_true (by omega)
      by_cases hz : (Utf8.encode r).size = 2
      · have hw : wrap64 (((Utf8.encode r).size : Int) - 1) = 1 := by unfold wrap64; omega
        go_wp2_with fail
        go_step3
        go_wp2_with fail
        refine wp_loop_rounds 1 ?_
        rw [rounds_succ]
        go_wp2_with fail
        have hb1 : (1 : Int) < ((Utf8.encode r).size : Int) := by omega
        have e4 : 128 ≤ ((Utf8.encode r)[1]'(by omega)).toNat := by
          have h := e3 (by omega)
          simpa [hz] using h
        have hq : (((s[1]'(by omega)).toNat : Int) != (((Utf8.encode r)[1]'(by omega)).toNat : Int)) = true := by
          simp only [bne_iff_ne, ne_eq]
          omega
        have hs3 : (1 : Int) < (s.size : Int) := by omega
        go_step3
        go_wp2_with fail
        go_quiet (fail)
        go_wp2_with fail
        have hw2 : wrap64 (1 + 1) = 2 := by simp [wrap64]
        have hs2 : (2 : Int) ≤ (s.size : Int) := by omega
        have hw3 : IntKind.i64.wrap 2 = 2 := by rw [IntKind.wrap_i64]; simp [wrap64]
        have CI := Lib.hid (fun (w' : World) (s : ByteArray) (c : Int) => Tryd.strings_IndexByte s c w')
        go_region_law (first | (go_simp; go_at_call 123; (refine (CI.out _ _ _).mono ?_); rintro e wq ⟨rfl, rfl⟩) | fail)
        have hix : ∀ c, Lib.indexByte [] c = -1 := fun c => rfl
        simp only [hix]
        go_wp2_with fail
        rw [Exit.noGoto_ret]
        go_wp2_with fail
        rw [Exit.noGoto_ret]
        go_ret
        first | exact ⟨rfl, below_drewN (Below.refl _ _) _⟩ | exact ⟨rfl, (below_drewN (Below.refl _ _) _).drew⟩
      · have hw : wrap64 (((Utf8.encode r).size : Int) - 1) = ((Utf8.encode r).size : Int) - 1 := by unfold wrap64; omega
        have hl : decide (((Utf8.encode r).size : Int) - 1 < (s.size : Int)) = false := decide_eq_false (by omega)
        go_wp2_with fail
        go_step3
        go_wp2_with fail
        refine wp_loop_rounds 1 ?_
        rw [rounds_succ]
        go_wp2_with fail
        rw [Exit.noGoto_ret]
        go_ret
        exact ⟨rfl, Below.refl _ _⟩
end Go.Proofs.YthknkdphofjmhaaDoor.Eid
/- The contracts of strings.ContainsRune at the two texts, and of eid.made. -/
namespace Go.Proofs.YthknkdphofjmhaaDoor.Eid
open Go.RowKit Wd

/-- Has the text this rune? -/
def hasR (more : ByteArray) (r : Int) : Bool := decide (r < 128) && decide (0 ≤ Lib.indexByte more.data.toList r.toNat.toUInt8)
/-- The two texts. -/
def Two2 (more : ByteArray) : Prop := more = ⟨#[45]⟩ ∨ more = ⟨#[45, 47]⟩
theorem contains_any (more : ByteArray) (hm : Two2 more) (r : Int) (w : World) (h0 : 0 ≤ r) (h1 : r ≤ 1114111) : Calls Tryd.prog 109 #[.string more, .int .i32 r] w fun e w' => e = .returned (.bool (hasR more r)) ∧ Below w.heap.size w w' := by
  by_cases hr : r < 128
  · refine (Tryd.strings_ContainsRune_ascii more r w h0 hr).mono ?_
    rintro e w' ⟨rfl, rfl⟩
    exact ⟨ret_bool (by unfold hasR; rw [decide_eq_true hr]; simp), Below.refl _ _⟩
  · have hh : hasR more r = false := by unfold hasR; rw [decide_eq_false hr]; rfl
    rw [hh]
    have CI : Hid (Calls Tryd.prog 115 #[.string more, .int .i32 r] w fun e w' => e = .returned (.int .i64 (-1)) ∧ Below w.heap.size w w') := Lib.hid (by
      rcases hm with rfl | rfl
      · exact indexRune1 r w (by omega) h1
      · exact indexRune2 _ rfl (by decide) (by decide) r w (by omega) h1)
    clear hh hm
    go_enter Tryd.func109, Tryd.ntmps109
    go_wp2_with fail
    refine CI.out.mono ?_
    rintro e w' ⟨rfl, hb⟩
    have HB := Lib.hid hb
    clear hb
    go_wp2_with fail
    go_ret
    exact ⟨rfl, HB.out⟩

/-- May a character be? -/
def okc (more : ByteArray) (c : Int) : Bool := (decide (97 ≤ c) && decide (c ≤ 122)) || (decide (48 ≤ c) && decide (c ≤ 57)) || hasR more c
/-- Is a text made of such characters, at most so many? -/
def mk (s : ByteArray) (most : Int) (more : ByteArray) : Bool := decide ((s.size : Int) ≤ most) && s.data.toList.all fun b => okc more b.toNat
theorem decode_le (s : ByteArray) (pos : Nat) : (Utf8.decode s pos).1 ≤ 1114111 := by
  unfold Utf8.decode Utf8.runeError
  dsimp only
  repeat' split
  all_goals first | omega | (simp_all [Utf8.valid]; omega) | simp_all [Utf8.valid]
theorem okc_high (more : ByteArray) (c : Int) (h : 128 ≤ c) : okc more c = false := by
  unfold okc hasR
  rw [decide_eq_false (show ¬ c ≤ 122 by omega), decide_eq_false (show ¬ c ≤ 57 by omega), decide_eq_false (show ¬ c < 128 by omega)]
  simp
theorem all_no (s : ByteArray) (pos : Nat) (h : pos < s.size) (f : UInt8 → Bool) (hf : f s[pos] = false) : s.data.toList.all f = false := by
  rw [List.all_eq_false]
  exact ⟨s[pos], by
    rw [List.mem_iff_getElem]
    exact ⟨pos, by simpa using h, by simp [ByteArray.getElem_eq_getElem_data]⟩, by rw [hf]; simp⟩
theorem all_snoc (s : ByteArray) (pos : Nat) (h : pos < s.size) (f : UInt8 → Bool) (hp : (s.data.toList.take pos).all f = true) (hf : f s[pos] = true) : (s.data.toList.take (pos + 1)).all f = true := by
  have hl : pos < s.data.toList.length := by simpa using h
  rw [List.take_succ_eq_append_getElem hl, List.all_append, hp]
  simp only [List.all_cons, List.all_nil, Bool.true_and, Bool.and_true]
  rw [← hf]
  congr 1

theorem okc_at (more : ByteArray) (s : ByteArray) (pos : Nat) (h : pos < s.size) : okc more ((Utf8.decode s pos).1 : Int) = okc more (s[pos].toNat : Int) ∧ (okc more (s[pos].toNat : Int) = true → (Utf8.decode s pos).2 = 1) := by
  by_cases ha : (s[pos]'h).toNat < 128
  · rw [decode_ascii s pos h ha]
    exact ⟨rfl, fun _ => rfl⟩
  · have h1 := decode_high s pos h (by omega)
    have h2 := okc_high more (s[pos].toNat : Int) (by omega)
    rw [h2, okc_high more _ (by have := h1.1; omega)]
    exact ⟨rfl, fun hh => by cases hh⟩

set_option maxRecDepth 100000 in
set_option maxHeartbeats 4000000 in
theorem made_any (s : ByteArray) (hs : s.size ≤ maxLen) (most : Int) (more : ByteArray) (hm : Two2 more) (w : World) :
    Calls Tryd.prog 100 #[.string s, .int .i64 most, .string more] w fun e w' => e = .returned (.bool (mk s most more)) ∧ Below w.heap.size w w' := by
  unfold maxLen at hs
  have HM := Lib.hid (show mk s most more = (decide ((s.size : Int) ≤ most) && s.data.toList.all fun b => okc more b.toNat) from rfl)
  have CC := Lib.hid (fun (r : Int) (w' : World) (h0 : 0 ≤ r) (h1 : r ≤ 1114111) => contains_any more hm r w' h0 h1)
  have HA := Lib.hid (fun (pos : Nat) (h : pos < s.size) => okc_at more s pos h)
  have HN := Lib.hid (fun (pos : Nat) (h : pos < s.size) => all_no s pos h (fun b => okc more b.toNat))
  have HS := Lib.hid (fun (pos : Nat) (h : pos < s.size) => all_snoc s pos h (fun b => okc more b.toNat))
  have HO := Lib.hid (fun (c : Int) => show okc more c = ((decide (97 ≤ c) && decide (c ≤ 122)) || (decide (48 ≤ c) && decide (c ≤ 57)) || hasR more c) from rfl)
  clear hm
  go_enter Tryd.func100, Tryd.ntmps100
  by_cases h1 : most < (s.size : Int)
  · have t1 : decide (most < (s.size : Int)) = true := decide_eq_true h1
    go_wp2_with fail
    go_ret
    exact ⟨ret_bool (by rw [HM.out, decide_eq_false (by omega)]; rfl), Below.refl _ _⟩
  · have t1 : decide (most < (s.size : Int)) = false := decide_eq_false h1
    have HM2 : Hid (mk s most more = s.data.toList.all fun b => okc more b.toNat) := Lib.hid (by rw [HM.out, decide_eq_true (by omega)]; rfl)
    have HB0 := Lib.hid (below_iter w s 0)
    have HI0 := Lib.hid (World.iter_heap w s 0)
    clear HM
    go_wp2_with fail
    go_loopw [8] (fun _ wr => ∃ pos : Nat, pos ≤ s.size ∧ w.heap.size < wr.heap.size ∧ Hid (wr.heap[w.heap.size]? = some (.stringIter s pos)) ∧ Hid ((s.data.toList.take pos).all (fun b => okc more b.toNat) = true) ∧ Hid (Below w.heap.size w wr)) (fun _ wr => s.size - wr.iterPos w.heap.size)
    case atStart => exact ⟨0, by omega, by simp [World.iter], HI0, Lib.hid rfl, HB0⟩
    case round =>
      obtain ⟨pos, hp, hsz, HI, HT, HB⟩ := hrel
      by_cases hlt : pos < s.size
      · have hnx : ∀ ty, (Instr.next (.pointer (some ⟨w.heap.size, 0, none⟩)) true ty).run Tryd.prog wr = _ := fun ty => Lib.run_next_any_at wr w.heap.size s pos ty HI.out hlt
        have HD := Lib.hid (HA.out pos hlt)
        have HI2 := Lib.hid (Lib.iterAt_heap wr w.heap.size s pos (pos + (Utf8.decode s pos).2) HI.out)
        have HB2 := Lib.hid (Lib.below_iterAt HB.out (Nat.le_refl _) s (pos + (Utf8.decode s pos).2))
        have hsz2 : w.heap.size < (wr.iterAt w.heap.size s (pos + (Utf8.decode s pos).2)).heap.size := by rw [Lib.iterAt_size]; exact hsz
        have HP := Lib.hid (iterPos_of HI.out)
        have hc1 : ((Utf8.decode s pos).1 : Int) ≤ 1114111 := by have := decode_le s pos; omega
        have hc0 : (0 : Int) ≤ ((Utf8.decode s pos).1 : Int) := by omega
        have HNo : Hid (okc more ((Utf8.decode s pos).1 : Int) = false → mk s most more = false) := Lib.hid (fun h => by rw [HM2.out]; exact HN.out pos hlt (by rw [← HD.out.1]; exact h))
        have HYes : Hid (okc more ((Utf8.decode s pos).1 : Int) = true → (s.data.toList.take (pos + 1)).all (fun b => okc more b.toNat) = true ∧ (Utf8.decode s pos).2 = 1) := Lib.hid (fun h => by rw [HD.out.1] at h; exact ⟨HS.out pos hlt HT.out h, HD.out.2 h⟩)
        generalize hW : wr.iterAt w.heap.size s (pos + (Utf8.decode s pos).2) = W at *
        clear hW
        generalize ((Utf8.decode s pos).1 : Int) = c at *
        generalize (Utf8.decode s pos).2 = wd at *
        have Fin : Hid (∀ W', Below W.heap.size W W' → okc more c = true → (∃ pos : Nat, pos ≤ s.size ∧ w.heap.size < W'.heap.size ∧ Hid (W'.heap[w.heap.size]? = some (.stringIter s pos)) ∧ Hid ((s.data.toList.take pos).all (fun b => okc more b.toNat) = true) ∧ Hid (Below w.heap.size w W')) ∧ s.size - W'.iterPos w.heap.size < s.size - wr.iterPos w.heap.size) := Lib.hid (fun W' hb hok => by
          obtain ⟨y1, y2⟩ := HYes.out hok
          subst y2
          have hi : W'.heap[w.heap.size]? = some (.stringIter s (pos + 1)) := by rw [hb.block _ hsz2]; exact HI2.out
          refine ⟨⟨pos + 1, by omega, by have := hb.size; omega, Lib.hid hi, Lib.hid y1, Lib.hid (below_next HB2.out (by omega) hb)⟩, ?_⟩
          rw [iterPos_of hi, HP.out]
          omega)
        have HOc := Lib.hid (HO.out c)
        by_cases q : (97 ≤ c ∧ c ≤ 122) ∨ (48 ≤ c ∧ c ≤ 57)
        · have HK : Hid (okc more c = true) := Lib.hid (by
            rw [HOc.out]
            rcases q with ⟨a, b⟩ | ⟨a, b⟩
            · rw [decide_eq_true a, decide_eq_true b]; rfl
            · rw [decide_eq_true a, decide_eq_true b]; simp)
          have F := Lib.hid (Fin.out W (Below.refl _ _) HK.out)
          by_cases a1 : 97 ≤ c
          · have d1 : decide (97 ≤ c) = true := decide_eq_true a1
            have d2 : decide (c ≤ 122) = true := decide_eq_true (by omega)
            clear q
            go_wp2_with fail
            go_roundw
            case rel => exact F.out.1
            case measure => exact F.out.2
          · have d1 : decide (97 ≤ c) = false := decide_eq_false a1
            have d3 : decide (48 ≤ c) = true := decide_eq_true (by omega)
            have d4 : decide (c ≤ 57) = true := decide_eq_true (by omega)
            clear q
            go_wp2_with fail
            go_roundw
            case rel => exact F.out.1
            case measure => exact F.out.2
        · have HK : Hid (okc more c = hasR more c) := Lib.hid (by
            rw [HOc.out, show (decide (97 ≤ c) && decide (c ≤ 122)) = false by simp; omega, show (decide (48 ≤ c) && decide (c ≤ 57)) = false by simp; omega]
            rfl)
          have CC2 := Lib.hid (CC.out c W hc0 hc1)
          have D : (decide (97 ≤ c) = false ∧ decide (48 ≤ c) = false) ∨ (decide (97 ≤ c) = true ∧ decide (c ≤ 122) = false ∧ decide (48 ≤ c) = true ∧ decide (c ≤ 57) = false) ∨ (decide (97 ≤ c) = false ∧ decide (48 ≤ c) = true ∧ decide (c ≤ 57) = false) := by
            simp only [decide_eq_false_iff_not, decide_eq_true_eq]
            omega
          clear q
          rcases D with ⟨d1, d2⟩ | ⟨d1, d2, d3, d4⟩ | ⟨d1, d3, d4⟩
          all_goals
            go_wp2_with fail
            refine CC2.out.mono ?_
            rintro e W' ⟨rfl, hb⟩
            cases hr : hasR more c
            · have HF := Lib.hid (HNo.out (by rw [HK.out, hr]))
              have HBf := Lib.hid (below_next HB2.out (by omega) hb)
              clear hb
              go_wp2_with fail
              go_ret
              exact ⟨ret_bool HF.out.symm, HBf.out⟩
            · have F := Lib.hid (Fin.out W' hb (by rw [HK.out, hr]))
              clear hb
              go_wp2_with fail
              go_roundw
              case rel => exact F.out.1
              case measure => exact F.out.2
      · obtain rfl : pos = s.size := by omega
        have hnx : ∀ ty, (Instr.next (.pointer (some ⟨w.heap.size, 0, none⟩)) true ty).run Tryd.prog wr = _ := fun ty => Lib.run_next_end_at wr w.heap.size s s.size ty HI.out hlt
        have HF : Hid (mk s most more = true) := Lib.hid (by
          rw [HM2.out, ← HT.out, List.take_of_length_le (by simp)])
        go_wp2_with fail
        go_ret
        exact ⟨ret_bool HF.out.symm, HB.out⟩
end Go.Proofs.YthknkdphofjmhaaDoor.Eid
/- The contract of eid.Less. -/
namespace Go.Proofs.YthknkdphofjmhaaDoor.Eid
open Go.RowKit Wd

/-- The five comparisons, one behind the other. -/
def ord (x y : Nm) : Int := or1 [Lib.compareInt (kd x) (kd y), cI x.node y.node, cI x.service y.service, Lib.compareBytes x.host.data.toList y.host.data.toList, Lib.compareBytes x.demux.data.toList y.demux.data.toList]

theorem cells5 {w : World} {g : Nat} {t : TypeId} {a b c d e : Value} (h : Blk w g t #[a, b, c, d, e]) : w.cell? ⟨g, 0, none⟩ = some a ∧ w.cell? ⟨g, 1, none⟩ = some b ∧ w.cell? ⟨g, 2, none⟩ = some c ∧ w.cell? ⟨g, 3, none⟩ = some d ∧ w.cell? ⟨g, 4, none⟩ = some e :=
  ⟨by simpa using h.cell 0, by simpa using h.cell 1, by simpa using h.cell 2, by simpa using h.cell 3, by simpa using h.cell 4⟩

theorem or1_neg (l : List Int) : or1 l < 0 ∨ or1 l = 0 ∨ 0 < or1 l := by omega
theorem cI_self (x : Int) : cI x x = 0 := by unfold cI; rw [if_neg (by omega), if_neg (by omega)]
theorem cI_swap (x y : Int) : cI y x = - cI x y := by unfold cI; split <;> split <;> (try split) <;> omega
theorem cmp_self (l : List UInt8) : Lib.compareBytes l l = 0 := by
  induction l with
  | nil => rfl
  | cons a l ih => simp [Lib.compareBytes, ih]
end Go.Proofs.YthknkdphofjmhaaDoor.Eid
/- The contracts of eid.rightTexts, Right, path. -/
namespace Go.Proofs.YthknkdphofjmhaaDoor.Eid
open Go.RowKit Wd

/-- May the texts of a name be? -/
def rt (h d : ByteArray) : Bool := !h.toList.isEmpty && mk h 16 ⟨#[45]⟩ && mk d 24 ⟨#[45, 47]⟩
set_option maxRecDepth 100000 in
set_option maxHeartbeats 4000000 in
theorem rightTexts_any (x : Nm) (hx : x.ok) (w : World) : Calls Tryd.prog 89 #[x.val] w fun e w' => e = .returned (.bool (rt x.host x.demux)) ∧ Below w.heap.size w w' := by
  obtain ⟨i, n, s, h, d⟩ := x
  have CM1 := Lib.hid (fun w' => made_any h hx.h 16 ⟨#[45]⟩ (.inl rfl) w')
  have CM2 := Lib.hid (fun w' => made_any d hx.d 24 ⟨#[45, 47]⟩ (.inr rfl) w')
  have HR := Lib.hid (show rt h d = (!h.toList.isEmpty && mk h 16 ⟨#[45]⟩ && mk d 24 ⟨#[45, 47]⟩) from rfl)
  have HB := Lib.hid ((Below.refl w.heap.size w).alloc (Nat.le_refl _) (.cells #[.bool i, .int .u64 n, .int .u64 s, .string h, .string d] 48))
  have HK := Lib.hid (Blk.new w 48 #[.bool i, .int .u64 n, .int .u64 s, .string h, .string d])
  clear hx
  show Calls Tryd.prog 89 #[.agg #[.bool i, .int .u64 n, .int .u64 s, .string h, .string d]] w fun e w' => e = .returned (.bool (rt h d)) ∧ Below w.heap.size w w'
  generalize rt h d = R at *
  generalize mk h 16 ⟨#[45]⟩ = m1 at *
  generalize mk d 24 ⟨#[45, 47]⟩ = m2 at *
  go_enter Tryd.func89, Tryd.ntmps89
  cases t0 : h.toList.isEmpty
  rotate_left
  · have HF := Lib.hid (show R = false by rw [HR.out, t0]; rfl)
    go_wp2_with fail
    go_ret
    exact ⟨ret_bool HF.out.symm, HB.out⟩
  · have HF := Lib.hid (show R = (m1 && m2) by rw [HR.out, t0]; rfl)
    clear HR
    go_wp2_with fail
    refine (CM1.out _).mono ?_
    rintro e w1 ⟨rfl, hb1⟩
    have HB1 := Lib.hid (below_next HB.out (by simp) hb1)
    have hd := (cells5 (HK.out.below hb1 HK.out.lt)).2.2.2.2
    clear hb1
    cases m1
    · go_wp2_with fail
      go_ret
      exact ⟨ret_bool HF.out.symm, HB1.out⟩
    · go_wp2_with fail
      refine (CM2.out _).mono ?_
      rintro e w2 ⟨rfl, hb2⟩
      have HB2 := Lib.hid (below_next HB1.out HB1.out.size hb2)
      clear hb2
      go_wp2_with fail
      go_ret
      exact ⟨ret_bool (by rw [HF.out]; rfl), HB2.out⟩

/-- What a name by texts has behind the scheme. -/
def pathOf (h d : ByteArray) : ByteArray := ((⟨#[47, 47]⟩ : ByteArray) ++ h) ++ (⟨#[47]⟩ : ByteArray) ++ d
set_option maxHeartbeats 1000000 in
theorem path_any (x : Nm) (h1 : x.host.size ≤ 1000) (h2 : x.demux.size ≤ 1000) (w : World) : Calls Tryd.prog 74 #[x.val] w fun e w' => e = .returned (.string (pathOf x.host x.demux)) ∧ Below w.heap.size w w' := by
  obtain ⟨i, n, s, h, d⟩ := x
  have HB := Lib.hid ((Below.refl w.heap.size w).alloc (Nat.le_refl _) (.cells #[.bool i, .int .u64 n, .int .u64 s, .string h, .string d] 48))
  replace h1 : h.size ≤ 1000 := h1
  replace h2 : d.size ≤ 1000 := h2
  have c1 : ¬ 9223372036854775807 < 2 + h.size := by omega
  have c2 : ¬ 9223372036854775807 < 2 + h.size + 1 := by omega
  have c3 : ¬ 9223372036854775807 < 2 + h.size + 1 + d.size := by omega
  go_enter Tryd.func74, Tryd.ntmps74
  go_wp2_with fail
  go_ret
  exact ⟨rfl, HB.out⟩

/-- May a name be? -/
def right (x : Nm) : Bool := if x.ipn then x.host.toList.isEmpty && x.demux.toList.isEmpty && rn x else if x.node = 0 ∧ x.service = 0 ∧ x.host.toList = [] ∧ x.demux.toList = [] then true else decide (x.node = 0) && decide (x.service = 0) && rt x.host x.demux

set_option maxRecDepth 100000 in
set_option maxHeartbeats 4000000 in
theorem right_any (x : Nm) (hx : x.ok) (w : World) : Calls Tryd.prog 71 #[x.val] w fun e w' => e = .returned (.bool (right x)) ∧ Below w.heap.size w w' := by
  have CK := Lib.hid (fun w' => kind_any x w')
  have CN := Lib.hid (fun w' => rightNumbers_any x w')
  have CT := Lib.hid (fun w' => rightTexts_any x hx w')
  obtain ⟨i, n, s, h, d⟩ := x
  have HB := Lib.hid ((Below.refl w.heap.size w).alloc (Nat.le_refl _) (.cells #[.bool i, .int .u64 n, .int .u64 s, .string h, .string d] 48))
  have HK := Lib.hid (Blk.new w 48 #[.bool i, .int .u64 n, .int .u64 s, .string h, .string d])
  clear hx
  go_enter Tryd.func71, Tryd.ntmps71
  go_wp2_with fail
  refine (CK.out _).mono ?_
  rintro e w1 ⟨rfl, hb1⟩
  have HB1 := Lib.hid (below_next HB.out (by simp) hb1)
  obtain ⟨c0, c1, c2, c3, c4⟩ := cells5 (HK.out.below hb1 HK.out.lt)
  clear hb1
  cases i
  · by_cases hz : n = 0 ∧ s = 0 ∧ h.toList = [] ∧ d.toList = []
    · have hk : kd ⟨false, n, s, h, d⟩ = 0 := by unfold kd; simp only [Bool.false_eq_true, if_false]; rw [if_pos hz]
      rw [hk]
      have hr : Hid (right ⟨false, n, s, h, d⟩ = true) := Lib.hid (by unfold right; simp only [Bool.false_eq_true, if_false]; rw [if_pos hz])
      clear hz hk
      go_wp2_with fail
      go_ret
      exact ⟨ret_bool hr.out.symm, HB1.out⟩
    · have hk : kd ⟨false, n, s, h, d⟩ = 2 := by unfold kd; simp only [Bool.false_eq_true, if_false]; rw [if_neg hz]
      rw [hk]
      have hr : Hid (right ⟨false, n, s, h, d⟩ = (decide (n = 0) && decide (s = 0) && rt h d)) := Lib.hid (by unfold right; simp only [Bool.false_eq_true, if_false]; rw [if_neg hz])
      clear hz hk HK
      by_cases e1 : n = 0
      · subst e1
        by_cases e2 : s = 0
        · subst e2
          have hr2 := Lib.hid (show right ⟨false, 0, 0, h, d⟩ = rt h d by rw [hr.out]; rfl)
          clear hr
          go_wp2_with fail
          refine (CT.out _).mono ?_
          rintro e w2 ⟨rfl, hb2⟩
          have HB2 := Lib.hid (below_next HB1.out HB1.out.size hb2)
          clear hb2
          go_wp2_with fail
          go_ret
          exact ⟨ret_bool hr2.out.symm, HB2.out⟩
        · have hr2 := Lib.hid (show right ⟨false, 0, s, h, d⟩ = false by rw [hr.out, decide_eq_false e2]; simp)
          clear hr
          go_wp2_with fail
          go_ret
          exact ⟨ret_bool hr2.out.symm, HB1.out⟩
      · have hr2 := Lib.hid (show right ⟨false, n, s, h, d⟩ = false by rw [hr.out, decide_eq_false e1]; simp)
        clear hr
        go_wp2_with fail
        go_ret
        exact ⟨ret_bool hr2.out.symm, HB1.out⟩
  · have hk : kd ⟨true, n, s, h, d⟩ = 1 := rfl
    rw [hk]
    have hr : Hid (right ⟨true, n, s, h, d⟩ = (h.toList.isEmpty && d.toList.isEmpty && rn ⟨true, n, s, h, d⟩)) := Lib.hid rfl
    clear hk HK
    by_cases e1 : h.toList = []
    · by_cases e2 : d.toList = []
      · have hr2 := Lib.hid (show right ⟨true, n, s, h, d⟩ = rn ⟨true, n, s, h, d⟩ by rw [hr.out, e1, e2]; rfl)
        clear hr
        go_wp2_with fail
        refine (CN.out _).mono ?_
        rintro e w2 ⟨rfl, hb2⟩
        have HB2 := Lib.hid (below_next HB1.out HB1.out.size hb2)
        clear hb2
        go_wp2_with fail
        go_ret
        exact ⟨ret_bool hr2.out.symm, HB2.out⟩
      · have hr2 := Lib.hid (show right ⟨true, n, s, h, d⟩ = false by rw [hr.out, e1]; simp [e2])
        clear hr
        go_wp2_with fail
        go_ret
        exact ⟨ret_bool hr2.out.symm, HB1.out⟩
    · have hr2 := Lib.hid (show right ⟨true, n, s, h, d⟩ = false by rw [hr.out]; simp [e1])
      clear hr
      go_wp2_with fail
      go_ret
      exact ⟨ret_bool hr2.out.symm, HB1.out⟩
end Go.Proofs.YthknkdphofjmhaaDoor.Eid
