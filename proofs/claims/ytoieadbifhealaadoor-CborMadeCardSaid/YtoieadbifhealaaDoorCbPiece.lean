/- The contracts of the reader's need and piece. -/
import Derived.Test.YtoieadbifhealaaDoorCbHead
namespace Go.Proofs.YtoieadbifhealaaDoor.CbPiece
open Go.RowKit Wd Cb CbCopy CbRight CbWrite CbHead U8V
attribute [local go_sem ↓] Go.wp_at_zero Go.wp_at_succ

set_option maxHeartbeats 1000000 in
theorem need_ok (g : Nat) (A : Option Addr) (c : Nat) (xs : List Int) (p left n : Int) (w : World) (hR : Rdr w g A c xs p left) (hc : xs.length ≤ c) (hm : c ≤ maxLen) (h0 : 0 ≤ p) (h1 : p ≤ xs.length) (hn0 : 0 ≤ n) (hn : ¬ (xs.length : Int) - p < n) :
    Calls Tryd.prog 97 #[.pointer (some ⟨g, 0, none⟩), .int .u64 n] w fun e w' => e = .returned (.tuple #[]) ∧ ∃ q, w' = w.drewN q := by
  obtain ⟨c0, c1, c2⟩ := hR.cells
  unfold maxLen at hm
  have hb : decide ((xs.length : Int) - p < n) = false := decide_eq_false hn
  have hw : IntKind.i64.wrap ((xs.length : Int) - p) = (xs.length : Int) - p := by rw [IntKind.wrap_i64]; omega
  have hw2 : IntKind.u64.wrap ((xs.length : Int) - p) = (xs.length : Int) - p := by rw [IntKind.wrap_u64]; omega
  go_enter Tryd.func97, Tryd.ntmps97
  go_wp2_with fail
  go_quiet (fail)
  go_wp2_with fail
  go_end0
  exact ⟨rfl, _, rfl⟩
set_option maxHeartbeats 1000000 in
theorem need_err (g : Nat) (A : Option Addr) (c : Nat) (xs : List Int) (p left n : Int) (w : World) (hR : Rdr w g A c xs p left) (hc : xs.length ≤ c) (hm : c ≤ maxLen) (h0 : 0 ≤ p) (h1 : p ≤ xs.length) (hn0 : 0 ≤ n) (hn : (xs.length : Int) - p < n) :
    Calls Tryd.prog 97 #[.pointer (some ⟨g, 0, none⟩), .int .u64 n] w fun e w' => e = fault 8 ∧ ∃ q, w' = w.drewN q := by
  obtain ⟨c0, c1, c2⟩ := hR.cells
  unfold maxLen at hm
  have hb : decide ((xs.length : Int) - p < n) = true := decide_eq_true hn
  have hw : IntKind.i64.wrap ((xs.length : Int) - p) = (xs.length : Int) - p := by rw [IntKind.wrap_i64]; omega
  have hw2 : IntKind.u64.wrap ((xs.length : Int) - p) = (xs.length : Int) - p := by rw [IntKind.wrap_u64]; omega
  go_enter Tryd.func97, Tryd.ntmps97
  go_wp2_with fail
  go_quiet (fail)
  go_wp2_with fail
  exact ⟨rfl, rfl, _, rfl⟩

/-- Nothing but block g, and the row r, is other than it was. -/
structure Two (w w' : World) (g : Nat) (r : Option Nat) : Prop where
  os : w'.os = w.os
  tape : w'.tape = w.tape
  output : w'.output = w.output
  size : w.heap.size ≤ w'.heap.size
  block : ∀ k, k < w.heap.size → k ≠ g → some k ≠ r → w'.heap[k]? = w.heap[k]?
theorem Two.refl (w : World) (g : Nat) (r : Option Nat) : Two w w g r := ⟨rfl, rfl, rfl, Nat.le_refl _, fun _ _ _ _ => rfl⟩
theorem Two.of_only {w w' : World} {g : Nat} (h : w.grownBy w' (some g)) (r : Option Nat) : Two w w' g r := ⟨h.os, h.tape, h.output, h.size, fun k hk hg _ => h.block k hk (fun e => hg (by injection e))⟩
theorem Two.of_row {w w' : World} {r : Option Nat} (h : w.grownBy w' r) (g : Nat) : Two w w' g r := ⟨h.os, h.tape, h.output, h.size, fun k hk _ hr => h.block k hk hr⟩
theorem Two.of_below {w w' : World} (h : Below w.heap.size w w') (g : Nat) (r : Option Nat) : Two w w' g r := ⟨h.os, h.tape, h.output, h.size, fun k hk _ _ => h.block k hk⟩
theorem Two.next {a b c : World} {g : Nat} {r r' : Option Nat} (h : Two a b g r) (k : Two b c g r') (hr : ∀ q, r' = some q → r = some q ∨ a.heap.size ≤ q) : Two a c g r :=
  ⟨k.os.trans h.os, k.tape.trans h.tape, k.output.trans h.output, Nat.le_trans h.size k.size, fun i hi hg hne => (k.block i (Nat.lt_of_lt_of_le hi h.size) hg (fun e => by
    rcases hr i e.symm with h1 | h1
    · exact hne h1.symm
    · omega)).trans (h.block i hi hg hne)⟩
theorem Two.trans {a b c : World} {g : Nat} {r : Option Nat} (h : Two a b g r) (k : Two b c g r) : Two a c g r := h.next k fun _ e => .inl e
theorem Two.drew {a b : World} {g : Nat} {r : Option Nat} (h : Two a b g r) : Two a b.drew g r := ⟨h.os, h.tape, h.output, h.size, h.block⟩
theorem Two.drewN {a b : World} {g : Nat} {r : Option Nat} (h : Two a b g r) (n : Nat) : Two a (b.drewN n) g r := ⟨h.os, h.tape, h.output, h.size, h.block⟩
theorem Two.only {w w' : World} {g : Nat} {r : Option Nat} (h : Two w w' g r) (hr : ∀ q, r = some q → w.heap.size ≤ q) : w.grownBy w' (some g) :=
  ⟨h.os, h.tape, h.output, h.size, fun k hk hg => h.block k hk (fun e => hg (by rw [e])) (fun e => by have := hr k e.symm; omega)⟩
theorem Two.blk {w w' : World} {g k : Nat} {r : Option Nat} {t : TypeId} {cs : Array Value} (h : Two w w' g r) (b : Blk w k t cs) (hg : k ≠ g) (hr : r ≠ some k) : Blk w' k t cs := (h.block k b.lt hg (Ne.symm hr)).trans b
theorem Two.alloc {a b : World} {g : Nat} {r : Option Nat} (h : Two a b g r) (o : Obj) : Two a (b.alloc o) g r :=
  h.trans (.of_below ((Below.refl _ _).alloc (Nat.le_refl _) o) g r)
theorem Two.set_ {a b : World} {g : Nat} {r : Option Nat} (h : Two a b g r) {p : Addr} (hp : p.block = g) (u : Value) : Two a (b.setCell p u) g r :=
  h.trans (.of_only (only_set (World.grownBy.refl _ _) hp u) r)
/-- What lies below the reader stays, if the row lies above it. -/
theorem Two.keep {w w' : World} {g : Nat} {r : Option Nat} (h : Two w w' g r) (hg : g < w.heap.size) (hr : ∀ q, r = some q → g ≤ q) : Below g w w' :=
  ⟨h.os, h.tape, h.output, h.size, fun k hk => h.block k (by omega) (by omega) (fun e => by have := hr k e.symm; omega)⟩

set_option maxHeartbeats 1000000 in
theorem piece_short (g : Nat) (A : Option Addr) (c : Nat) (xs : List Int) (p left m n : Int) (o : Bool) (v0 : Value) (w : World) (hR : Rdr w g A c xs p left) (hc : xs.length ≤ c) (hm : c ≤ maxLen) (h0 : 0 ≤ p) (h1 : p ≤ xs.length) (hn0 : 0 ≤ n) (hn : (xs.length : Int) - p < n) :
    Calls Tryd.prog 98 #[.pointer (some ⟨g, 0, none⟩), v0, .agg #[.int .i64 m, .int .u64 n, .bool o]] w fun e w' => e = fault 8 ∧ Below w.heap.size w w' := by
  have C1 := Lib.hid (need_err g A c xs p left n (w.alloc (.cells #[.int .i64 m, .int .u64 n, .bool o] 90)) (hR.alloc _) hc hm h0 h1 hn0 hn)
  clear hR
  go_enter Tryd.func98, Tryd.ntmps98
  go_wp2_with fail
  refine C1.out.mono ?_
  rintro e w1 ⟨rfl, q, rfl⟩
  unfold fault
  go_wp2_with fail
  exact ⟨rfl, rfl, below_drewNv ((Below.refl _ _).alloc (Nat.le_refl _) _) q⟩

theorem add_plain (b o k : Nat) : (⟨b, o, none⟩ : Addr).add k = ⟨b, o + k, none⟩ := by unfold Addr.add; split <;> simp_all
theorem chunk_length (xs : List Int) (pn nn : Nat) (h : pn + nn ≤ xs.length) : (chunk xs pn nn).length = nn := by simp [chunk]; omega
theorem chunk_bts (xs : List Int) (p n : Int) (h : St.bts xs) : St.bts (chunk xs p n) := fun x hx => h x (List.mem_of_mem_drop (List.mem_of_mem_take hx))
theorem chunk_lst {w : World} {B c : Nat} {A : Option Addr} {xs : List Int} (hs : Lst w B A (u8s xs)) (pn nn : Nat) (h : pn + nn ≤ xs.length) (hc : xs.length ≤ c) :
    Lst w B (if c = pn then A else Option.map (fun x => x.add pn) A) (u8s (chunk xs pn nn)) := by
  rcases Nat.eq_zero_or_pos nn with h0 | h0
  · subst h0
    exact .inl (by simp [chunk])
  · rw [if_neg (by omega)]
    obtain ⟨b, o, rfl, hb, hc⟩ := hs.bytes (k := pn) (by omega)
    have := Lst.piece (w := w) (w' := w) (B' := B) hc hb (fun _ _ => rfl) pn nn h
    simpa [add_plain, chunk] using this

set_option maxHeartbeats 1000000 in
theorem piece_bad (g : Nat) (A : Option Addr) (c : Nat) (xs : List Int) (p left m n : Int) (o : Bool) (v0 : Value) (w : World) (hR : Rdr w g A c xs p left) (hs : Lst w g A (u8s xs)) (hx : St.bts xs) (hc : xs.length ≤ c) (hm : c ≤ maxLen) (h0 : 0 ≤ p) (h1 : p ≤ xs.length) (hn0 : 0 ≤ n) (hn : ¬ (xs.length : Int) - p < n) (hT : Tabs w) (h3 : m = 3) (hu : U8.utf8 (chunk xs p n) = false) :
    Calls Tryd.prog 98 #[.pointer (some ⟨g, 0, none⟩), v0, .agg #[.int .i64 m, .int .u64 n, .bool o]] w fun e w' => e = fault 3 ∧ Below w.heap.size w w' := by
  subst h3
  have C1 := Lib.hid (need_ok g A c xs p left n (w.alloc (.cells #[.int .i64 3, .int .u64 n, .bool o] 90)) (hR.alloc _) hc hm h0 h1 hn0 hn)
  obtain ⟨pn, rfl⟩ := Int.eq_ofNat_of_zero_le h0
  obtain ⟨nn, rfl⟩ := Int.eq_ofNat_of_zero_le hn0
  have HR0 := Lib.hid (hR.alloc (.cells #[.int .i64 3, .int .u64 nn, .bool o] 90))
  have HK0 := Lib.hid (Blk.new w 90 #[.int .i64 3, .int .u64 nn, .bool o])
  have HB0 := Lib.hid ((Below.refl w.heap.size w).alloc (Nat.le_refl _) (.cells #[.int .i64 3, .int .u64 nn, .bool o] 90))
  have hnz : ¬ w.heap.size = g := by have := hR.lt; omega
  have hng : ¬ g = w.heap.size := by have := hR.lt; omega
  unfold maxLen at hm
  have hwp : IntKind.i64.wrap ((pn : Int) + (nn : Int)) = (pn : Int) + (nn : Int) := by rw [IntKind.wrap_i64]; omega
  have hwn : IntKind.i64.wrap (nn : Int) = (nn : Int) := by rw [IntKind.wrap_i64]; omega
  have b0 : (0 : Int) ≤ (pn : Int) := by omega
  have b1 : (pn : Int) ≤ (pn : Int) + (nn : Int) := by omega
  have b2 : (pn : Int) + (nn : Int) ≤ (c : Int) := by omega
  clear hR
  go_enter Tryd.func98, Tryd.ntmps98
  go_wp2_with fail
  refine C1.out.mono ?_
  rintro e w1 ⟨rfl, q, rfl⟩
  have hR1 : Rdr ((w.alloc (.cells #[.int .i64 3, .int .u64 nn, .bool o] 90)).drewN q) g A c xs pn left := HR0.out.drewN q
  have hK1 : Blk ((w.alloc (.cells #[.int .i64 3, .int .u64 nn, .bool o] 90)).drewN q) w.heap.size 90 #[.int .i64 3, .int .u64 nn, .bool o] := HK0.out.drewN q
  have HB1 := Lib.hid (below_drewNv HB0.out q)
  generalize (w.alloc (.cells #[.int .i64 3, .int .u64 nn, .bool o] 90)).drewN q = W1 at *
  obtain ⟨c0, c1, c2⟩ := hR1.cells
  have hf := hR1.frozen 1
  obtain ⟨k0, k1, k2⟩ := hK1.three
  have HR1 := Lib.hid hR1
  have HK1 := Lib.hid hK1
  clear hR1 hK1 C1
  go_wp2_with fail
  go_quiet (fail)
  have hlst := chunk_lst (c := c) (hs.below' (HB1.out) (by have := HR0.out.lt; simp at this; omega)) pn nn (by omega) hc
  have hcl := chunk_length xs pn nn (by omega)
  have hcb := chunk_bts xs pn nn hx
  generalize chunk xs pn nn = ch at *
  have HL2 := Lib.hid (hlst.keep (w' := W1.drewN nq) fun _ _ => rfl)
  have HR2 := Lib.hid (HR1.out.drewN nq)
  have HK2 := Lib.hid (HK1.out.drewN nq)
  have HB2 := Lib.hid (below_drewNv HB1.out nq)
  generalize W1.drewN nq = W2 at *
  obtain ⟨c0, c1, c2⟩ := HR2.out.cells
  have hf2 := HR2.out.frozen 1
  obtain ⟨k0, k1, k2⟩ := HK2.out.three
  clear hlst HR1 HK1 HB1 hf
  generalize (if c = pn then A else Option.map (fun x => x.add pn) A) = Ap at *
  have hpp : pn + nn - pn = ch.length := by omega
  have CU := Lib.hid ((hT.below HB2.out (Nat.le_refl _)).utf8 Ap g (c - pn) ch HL2.out (by have := HR2.out.lt; omega) hcb (by omega) (by unfold maxLen; omega))
  have HU := Lib.hid hu
  clear hu hcl b0 b1 b2 hn
  go_wp2_with fail
  refine CU.out.mono ?_
  rintro e w3 ⟨rfl, hb3⟩
  rw [HU.out]
  have HB3 := Lib.hid (below_next HB2.out HB2.out.size hb3)
  clear hb3
  go_wp2_with fail
  exact ⟨rfl, rfl, HB3.out⟩


set_option maxRecDepth 100000 in
set_option maxHeartbeats 2000000 in
theorem piece_ok (g base n0 : Nat) (A : Option Addr) (c : Nat) (xs acc : List Int) (p left m n : Int) (o : Bool) (v0 : Value) (w : World) (hR : Rdr w g A c xs p left) (hs : Lst w g A (u8s xs)) (hx : St.bts xs) (hc : xs.length ≤ c) (hm : c ≤ maxLen) (h0 : 0 ≤ p) (h1 : p ≤ xs.length) (hn0 : 0 ≤ n) (hn : ¬ (xs.length : Int) - p < n)
    (hT : Tabs w) (h3 : ¬ (m = 3 ∧ U8.utf8 (chunk xs p n) = false)) (hown : w.ownsRow base 5 1 v0 n0 (u8s acc)) (hgb : g < base) (hbase : base ≤ w.heap.size) (hlen : (n0 : Int) + n ≤ 100000000000000) :
    Calls Tryd.prog 98 #[.pointer (some ⟨g, 0, none⟩), v0, .agg #[.int .i64 m, .int .u64 n, .bool o]] w fun e w' => ∃ v1, e = .returned v1 ∧ Hid (w'.ownsRow base 5 1 v1 (n0 + n.toNat) (u8s (acc ++ chunk xs p n))) ∧ Hid (Rdr w' g A c xs (p + n) left) ∧
      Hid (Two w w' g v0.ownBlock) ∧ Hid (∀ q, v1.ownBlock = some q → v0.ownBlock = some q ∨ w.heap.size ≤ q) := by
  obtain ⟨i0, hi0, hz0, hz1, hz2⟩ := info_parts info_u8
  have C1 := Lib.hid (need_ok g A c xs p left n (w.alloc (.cells #[.int .i64 m, .int .u64 n, .bool o] 90)) (hR.alloc _) hc hm h0 h1 hn0 hn)
  obtain ⟨pn, rfl⟩ := Int.eq_ofNat_of_zero_le h0
  obtain ⟨nn, rfl⟩ := Int.eq_ofNat_of_zero_le hn0
  have HR0 := Lib.hid (hR.alloc (.cells #[.int .i64 m, .int .u64 nn, .bool o] 90))
  have HK0 := Lib.hid (Blk.new w 90 #[.int .i64 m, .int .u64 nn, .bool o])
  have HB0 := Lib.hid ((Below.refl w.heap.size w).alloc (Nat.le_refl _) (.cells #[.int .i64 m, .int .u64 nn, .bool o] 90))
  have hnz : ¬ w.heap.size = g := by have := hR.lt; omega
  have hng : ¬ g = w.heap.size := by have := hR.lt; omega
  unfold maxLen at hm
  have hwp : IntKind.i64.wrap ((pn : Int) + (nn : Int)) = (pn : Int) + (nn : Int) := by rw [IntKind.wrap_i64]; omega
  have hwn : IntKind.i64.wrap (nn : Int) = (nn : Int) := by rw [IntKind.wrap_i64]; omega
  have b0 : (0 : Int) ≤ (pn : Int) := by omega
  have b1 : (pn : Int) ≤ (pn : Int) + (nn : Int) := by omega
  have b2 : (pn : Int) + (nn : Int) ≤ (c : Int) := by omega
  clear hR
  go_enter Tryd.func98, Tryd.ntmps98
  go_wp2_with fail
  refine C1.out.mono ?_
  rintro e w1 ⟨rfl, q, rfl⟩
  have hR1 : Rdr ((w.alloc (.cells #[.int .i64 m, .int .u64 nn, .bool o] 90)).drewN q) g A c xs pn left := HR0.out.drewN q
  have hK1 : Blk ((w.alloc (.cells #[.int .i64 m, .int .u64 nn, .bool o] 90)).drewN q) w.heap.size 90 #[.int .i64 m, .int .u64 nn, .bool o] := HK0.out.drewN q
  have HB1 := Lib.hid (below_drewNv HB0.out q)
  generalize (w.alloc (.cells #[.int .i64 m, .int .u64 nn, .bool o] 90)).drewN q = W1 at *
  obtain ⟨c0, c1, c2⟩ := hR1.cells
  have hf := hR1.frozen 1
  obtain ⟨k0, k1, k2⟩ := hK1.three
  have HR1 := Lib.hid hR1
  have HK1 := Lib.hid hK1
  clear hR1 hK1 C1
  go_wp2_with fail
  go_quiet (fail)
  have hlst := chunk_lst (c := c) (hs.below' (HB1.out) (by have := HR0.out.lt; simp at this; omega)) pn nn (by omega) hc
  have hcl := chunk_length xs pn nn (by omega)
  have hcb := chunk_bts xs pn nn hx
  generalize hch : chunk xs pn nn = ch at *
  have HCH := Lib.hid hch
  clear hch
  have HL2 := Lib.hid (hlst.keep (w' := W1.drewN nq) fun _ _ => rfl)
  have HR2 := Lib.hid (HR1.out.drewN nq)
  have HK2 := Lib.hid (HK1.out.drewN nq)
  have HB2 := Lib.hid (below_drewNv HB1.out nq)
  generalize W1.drewN nq = W2 at *
  obtain ⟨c0, c1, c2⟩ := HR2.out.cells
  have hf2 := HR2.out.frozen 1
  obtain ⟨k0, k1, k2⟩ := HK2.out.three
  clear hlst HR1 HK1 HB1 hf
  generalize (if c = pn then A else Option.map (fun x => x.add pn) A) = Ap at *
  have hpp : pn + nn - pn = nn := by omega
  have HO2 := Lib.hid (own_later hown HB2.out)
  have HT2 := Lib.hid (hT.below HB2.out (Nat.le_refl _))
  have HH3 := Lib.hid h3
  have HCL := Lib.hid hcl
  have hlen2 : n0 + nn ≤ 100000000000000 := by omega
  have hMx : n0 + nn ≤ maxLen := by unfold maxLen; omega
  have hcm : nn ≤ c - pn := by omega
  have CU := Lib.hid (fun (hm : m = 3) => HT2.out.utf8 Ap g (c - pn) ch HL2.out (by have := HR2.out.lt; omega) hcb (by omega) (by unfold maxLen; omega))
  rw [hcl] at CU
  have CU2 := Lib.hid CU.out
  clear h3 hcl hown hT CU
  have hgb2 : g < w.heap.size := by omega
  have HL0 : Hid (∀ q, v0.ownBlock = some q → base ≤ q) := Lib.hid (fun q hq => (HO2.out.lt q hq).1)
  -- what is left behind the look at the text
  have main : ∀ W : World, Hid (Below w.heap.size w W) → Hid (Rdr W g A c xs pn left) → Hid (Lst W g Ap (u8s ch)) → Hid (W.ownsRow base 5 1 v0 n0 (u8s acc)) →
      Hid (Rdr (W.setCell ⟨g, 1, none⟩ (.int .i64 (pn + nn))) g A c xs (pn + nn) left) ∧ Hid ((W.setCell ⟨g, 1, none⟩ (.int .i64 (pn + nn))).ownsRow base 5 1 v0 n0 (u8s acc)) ∧ Hid (Lst (W.setCell ⟨g, 1, none⟩ (.int .i64 (pn + nn))) g Ap (u8s ch)) ∧ Hid (Two w (W.setCell ⟨g, 1, none⟩ (.int .i64 (pn + nn))) g v0.ownBlock) := fun W hB hR hL hO => by
    have hne : v0.ownBlock ≠ some g := fun e => by have := HL0.out g e; omega
    have hset : W.grownBy (W.setCell ⟨g, 1, none⟩ (.int .i64 (pn + nn))) (some g) := only_set (World.grownBy.refl _ _) rfl _
    refine ⟨Lib.hid ?_, Lib.hid ?_, Lib.hid ?_, Lib.hid ((Two.of_below hB.out g v0.ownBlock).set_ rfl _)⟩
    · have h := Wd.Blk.set_ (show Blk W g 88 #[.slice A xs.length c, .int .i64 pn, .int .i64 left] from hR.out) 1 (.int .i64 (pn + nn))
      simpa [Rdr] using h
    · exact hO.out.kept hset (.inr hne)
    · exact hL.out.keep fun q hq => World.cell?_setCell_other W _ q _ (fun e => by subst e; simp at hq)
  have HM := Lib.hid main
  clear main
  simp only [hpp]
  by_cases hm3 : m = 3
  · have hu : U8.utf8 ch = true := by
      cases h : U8.utf8 ch
      · exact absurd ⟨hm3, h⟩ HH3.out
      · rfl
    have HU := Lib.hid hu
    have C3 := CU2.out hm3
    subst hm3
    have HC3 := Lib.hid C3
    clear hu CU2 HH3 C3
    go_wp2_with fail
    refine HC3.out.mono ?_
    rintro e w3 ⟨rfl, hb3⟩
    rw [HU.out]
    obtain ⟨MR, MO, ML, MT⟩ := HM.out w3 (Lib.hid (below_next HB2.out HB2.out.size hb3)) (Lib.hid (HR2.out.below hb3)) (Lib.hid (HL2.out.below' hb3 (Nat.le_of_lt HR2.out.lt))) (Lib.hid (own_later HO2.out hb3))
    obtain ⟨c0, c1, c2⟩ := (HR2.out.below hb3).cells
    have hf2 := (HR2.out.below hb3).frozen 1
    clear hb3 HC3 HM
    go_wp2_with (first
      | (at_builtin
         refine wpList_append_lst _ rfl (.tmp 47) (.tmp 48) _ (by rfl) base 5 i0 _ 1 Tryd.underlying23 hi0 hz0 hz1 hz2 rfl v0 n0 (u8s acc) (by rfl) MO.out
           g Ap nn (c - pn) (u8s ch) (by rfl) (by simpa using HCL.out) ML.out (u8_one ch) hMx (by omega) (Nat.le_trans hbase MT.out.size) ?_
         intro v4 w4 hown4 hg4 hat4
         have HO4 := Lib.hid hown4
         have HT4 := Lib.hid (MT.out.trans (Two.of_row hg4 g))
         have HA4 : Hid (∀ q, v4.ownBlock = some q → v0.ownBlock = some q ∨ w.heap.size ≤ q) := Lib.hid (own_where (fun _ h => .inl h) hat4 MT.out.size)
         have HR4 := Lib.hid (CbWrite.Blk.grown MR.out hg4 (fun e => by have := HL0.out g e; omega))
         clear hown4 hg4 hat4))
    go_ret
    refine ⟨_, rfl, ?_, ?_, ?_, HA4⟩
    · exact Lib.hid (by simpa [u8s, HCH.out] using HO4.out)
    · exact HR4
    · exact HT4
  · have hm3b : (m == 3) = false := by simpa using hm3
    obtain ⟨MR, MO, ML, MT⟩ := HM.out W2 HB2 HR2 HL2 HO2
    clear HM hm3 CU2
    go_wp2_with (first
      | (at_builtin
         refine wpList_append_lst _ rfl (.tmp 47) (.tmp 48) _ (by rfl) base 5 i0 _ 1 Tryd.underlying23 hi0 hz0 hz1 hz2 rfl v0 n0 (u8s acc) (by rfl) MO.out
           g Ap nn (c - pn) (u8s ch) (by rfl) (by simpa using HCL.out) ML.out (u8_one ch) hMx (by omega) (Nat.le_trans hbase MT.out.size) ?_
         intro v4 w4 hown4 hg4 hat4
         have HO4 := Lib.hid hown4
         have HT4 := Lib.hid (MT.out.trans (Two.of_row hg4 g))
         have HA4 : Hid (∀ q, v4.ownBlock = some q → v0.ownBlock = some q ∨ w.heap.size ≤ q) := Lib.hid (own_where (fun _ h => .inl h) hat4 MT.out.size)
         have HR4 := Lib.hid (CbWrite.Blk.grown MR.out hg4 (fun e => by have := HL0.out g e; omega))
         clear hown4 hg4 hat4))
    go_ret
    refine ⟨_, rfl, ?_, ?_, ?_, HA4⟩
    · exact Lib.hid (by simpa [u8s, HCH.out] using HO4.out)
    · exact HR4
    · exact HT4
end Go.Proofs.YtoieadbifhealaaDoor.CbPiece
