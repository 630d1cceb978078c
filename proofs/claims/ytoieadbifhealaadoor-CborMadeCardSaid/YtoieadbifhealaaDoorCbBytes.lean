/- The contract of the reader's bytes. -/
import Derived.Test.YtoieadbifhealaaDoorCbPiece
import Derived.Deep.LoopGhost
namespace Go.Proofs.YtoieadbifhealaaDoor.CbBytes
open Go.RowKit Wd Cb CbCopy CbRight CbWrite CbHead CbPiece U8V
attribute [local go_sem ↓] Go.wp_at_zero Go.wp_at_succ

/-- What is read from: its bytes lie below the reader, and so do the tables of utf8. -/
structure Src (w : World) (g : Nat) (A : Option Addr) (c : Nat) (xs : List Int) : Prop where
  lst : Lst w g A (u8s xs)
  bts : St.bts xs
  cap : xs.length ≤ c
  max : c ≤ maxLen
  len : xs.length ≤ 100000000000
  tabs : Tabs w
  t1 : 1 < g
  t2 : 2 < g
theorem below_of_only {w w' : World} {g : Nat} (h : w.grownBy w' (some g)) (hg : g < w.heap.size) : Below g w w' := (Two.of_only h none).keep hg (fun _ e => by cases e)
theorem Src.below {w w' : World} {g : Nat} {A : Option Addr} {c : Nat} {xs : List Int} (h : Src w g A c xs) (hb : Below g w w') : Src w' g A c xs :=
  ⟨h.lst.below hb, h.bts, h.cap, h.max, h.len, ⟨⟨fun i hi => (hb.cell (p := ⟨1, i, none⟩) h.t1).trans (h.tabs.1.1 i hi),
    fun i hi => ⟨(hb.cell (p := ⟨2, 2 * i, none⟩) h.t2).trans (h.tabs.1.2 i hi).1, (hb.cell (p := ⟨2, 2 * i + 1, none⟩) h.t2).trans (h.tabs.1.2 i hi).2⟩⟩,
   Nat.lt_of_lt_of_le h.tabs.2.1 hb.size, Nat.lt_of_lt_of_le h.tabs.2.2 hb.size⟩, h.t1, h.t2⟩
theorem Src.only {w w' : World} {g : Nat} {A : Option Addr} {c : Nat} {xs : List Int} (h : Src w g A c xs) (hg : g < w.heap.size) (hb : w.grownBy w' (some g)) : Src w' g A c xs := h.below (below_of_only hb hg)
theorem Two.after {a w w' : World} {g : Nat} {r : Option Nat} (h : a.grownBy w (some g)) (k : Two w w' g r) (hr : ∀ q, r = some q → a.heap.size ≤ q) : a.grownBy w' (some g) :=
  ((Two.of_only h r).trans k).only hr

/-- What bytes answers, and what it leaves. -/
def BOut (w : World) (g : Nat) (A : Option Addr) (c : Nat) (xs : List Int) (p : Int) (e : Ending) (w' : World) : Res (List Int) → Prop
  | .err k => e = fault k ∧ Hid (w.grownBy w' (some g))
  | .ok b p' l' => ∃ A' c', e = .returned (.slice A' b.length c') ∧ b.length ≤ c' ∧ c' ≤ maxLen ∧ Hid (St.bts b) ∧ Hid (Seg w' w.heap.size w'.heap.size A' (u8s b)) ∧ Hid (Rdr w' g A c xs p' l') ∧ Hid (w.grownBy w' (some g)) ∧ p ≤ p' ∧ p' ≤ xs.length

theorem u8s_append (a b : List Int) : u8s (a ++ b) = u8s a ++ u8s b := by simp [u8s]
theorem nilRow (w : World) (base : Nat) (e : TypeId) (s : Nat) : w.ownsRow base e s (.slice none 0 0) 0 [] := ⟨by simp, .inl ⟨rfl, rfl⟩⟩

set_option maxHeartbeats 1000000 in
theorem bytes_closed (g : Nat) (A : Option Addr) (c : Nat) (xs : List Int) (p left m n : Int) (w : World) (hR : Rdr w g A c xs p left) (hS : Src w g A c xs) (h0 : 0 ≤ p) (h1 : p ≤ xs.length) (hn0 : 0 ≤ n) :
    Calls Tryd.prog 80 #[.pointer (some ⟨g, 0, none⟩), .agg #[.int .i64 m, .int .u64 n, .bool false]] w fun e w' => ∃ r, BodyR xs m n false p left r ∧ BOut w g A c xs p e w' r := by
  have hgl := hR.lt
  have hSa : Src (w.alloc (.cells #[.int .i64 m, .int .u64 n, .bool false] 90)) g A c xs := hS.below (((Below.refl _ _).alloc (Nat.le_refl _) _).mono (Nat.le_of_lt hgl))
  have HB0 := Lib.hid ((Below.refl w.heap.size w).alloc (Nat.le_refl _) (.cells #[.int .i64 m, .int .u64 n, .bool false] 90))
  have hz : (w.alloc (.cells #[.int .i64 m, .int .u64 n, .bool false] 90)).heap.size = w.heap.size + 1 := World.size_alloc _ _
  by_cases hn : (xs.length : Int) - p < n
  · have C1 := Lib.hid (piece_short g A c xs p left m n false (.slice none 0 0) _ (hR.alloc (.cells #[.int .i64 m, .int .u64 n, .bool false] 90)) hS.cap hS.max h0 h1 hn0 hn)
    have HP : Hid (piece xs [] m n p left = .err 8) := Lib.hid (by unfold piece; rw [if_pos hn])
    clear hn
    go_enter Tryd.func80, Tryd.ntmps80
    go_wp2_with fail
    refine C1.out.mono ?_
    rintro e w1 ⟨rfl, hb⟩
    unfold fault
    go_wp2_with fail
    exact ⟨rfl, .err 8, by simpa [BodyR] using HP.out, rfl, Lib.hid (only_below (HB0.out.trans (hb.mono (by omega))))⟩
  · by_cases h3 : m = 3 ∧ U8.utf8 (chunk xs p n) = false
    · have C1 := Lib.hid (piece_bad g A c xs p left m n false (.slice none 0 0) _ (hR.alloc (.cells #[.int .i64 m, .int .u64 n, .bool false] 90)) hSa.lst hS.bts hS.cap hS.max h0 h1 hn0 hn hSa.tabs h3.1 h3.2)
      have HP : Hid (piece xs [] m n p left = .err 3) := Lib.hid (by unfold piece; rw [if_neg hn, if_pos h3])
      clear hn h3
      go_enter Tryd.func80, Tryd.ntmps80
      go_wp2_with fail
      refine C1.out.mono ?_
      rintro e w1 ⟨rfl, hb⟩
      unfold fault
      go_wp2_with fail
      exact ⟨rfl, .err 3, by simpa [BodyR] using HP.out, rfl, Lib.hid (only_below (HB0.out.trans (hb.mono (by omega))))⟩
    · have hlen := hS.len
      have C1 := Lib.hid (piece_ok g (w.heap.size + 1) 0 A c xs [] p left m n false (.slice none 0 0) _ (hR.alloc (.cells #[.int .i64 m, .int .u64 n, .bool false] 90)) hSa.lst hS.bts hS.cap hS.max h0 h1 hn0 hn hSa.tabs h3 (nilRow _ _ _ _) (by omega) (by rw [hz]; omega) (by omega))
      have HP : Hid (piece xs [] m n p left = .ok ([] ++ chunk xs p n) (p + n) left) := Lib.hid (by unfold piece; rw [if_neg hn, if_neg h3])
      have HL : Hid ((chunk xs p n).length = n.toNat) := Lib.hid (by unfold chunk; simp; omega)
      have hpn : p + n ≤ xs.length := by omega
      clear hn h3
      go_enter Tryd.func80, Tryd.ntmps80
      go_wp2_with fail
      refine C1.out.mono ?_
      rintro e w1 ⟨v1, rfl, HO, HR1, HT, HA⟩
      obtain ⟨A1, c1, rfl, hc1, hm1⟩ := own_sl HO.out
      have hsz := HT.out.size
      go_wp2_with fail
      go_ret
      refine ⟨.ok (chunk xs p n) (p + n) left, by simpa [BodyR] using HP.out, A1, c1, by rw [HL.out]; simp, by rw [HL.out]; omega, hm1, Lib.hid (chunk_bts xs p n hS.bts), Lib.hid ?_, HR1, Lib.hid (Two.after (only_below HB0.out) HT.out (by simp [Value.ownBlock])), by omega, hpn⟩
      exact (Seg.of_own HO.out).more (by omega) (Nat.le_refl _)

/-- A box of three cells is written anew: what lies elsewhere stays. -/
theorem blk_set3 {w : World} {k : Nat} {t : TypeId} {x y z : Value} (h : Blk w k t #[x, y, z]) (a b c : Value) : Blk (((w.setCell ⟨k, 0, none⟩ a).setCell ⟨k, 1, none⟩ b).setCell ⟨k, 2, none⟩ c) k t #[a, b, c] := by
  simpa using ((h.set_ 0 a).set_ 1 b).set_ 2 c
theorem blk_far3 {w : World} {k r : Nat} {t : TypeId} {cs : Array Value} (h : Blk w r t cs) (hr : r ≠ k) (a b c : Value) : Blk (((w.setCell ⟨k, 0, none⟩ a).setCell ⟨k, 1, none⟩ b).setCell ⟨k, 2, none⟩ c) r t cs :=
  ((h.far (p := ⟨k, 0, none⟩) hr a).far (p := ⟨k, 1, none⟩) hr b).far (p := ⟨k, 2, none⟩) hr c

/-- The state at the head of the loop over pieces. -/
theorem chunks_start {xs : List Int} {m n left p : Int} {acc : List Int} {q : Int} (h : ∀ r, ChunksR xs m left acc q r → ChunksR xs m left [] p r) {r : Res (List Int)} (k : ChunksR xs m left acc q r) : BodyR xs m n true p left r := by
  simpa [BodyR] using h r k

set_option maxRecDepth 100000 in
set_option maxHeartbeats 2000000 in
theorem bytes_open (g : Nat) (A : Option Addr) (c : Nat) (xs : List Int) (p left m n : Int) (w : World) (hR : Rdr w g A c xs p left) (hS : Src w g A c xs) :
    Calls Tryd.prog 80 #[.pointer (some ⟨g, 0, none⟩), .agg #[.int .i64 m, .int .u64 n, .bool true]] w fun e w' => ∃ r, BodyR xs m n true p left r ∧ BOut w g A c xs p e w' r := by
  have hgl := hR.lt
  have hSa : Src (w.alloc (.cells #[.int .i64 m, .int .u64 n, .bool true] 90)) g A c xs := hS.below (((Below.refl _ _).alloc (Nat.le_refl _) _).mono (Nat.le_of_lt hgl))
  have HB0 := Lib.hid ((Below.refl w.heap.size w).alloc (Nat.le_refl _) (.cells #[.int .i64 m, .int .u64 n, .bool true] 90))
  have HK0 := Lib.hid (Blk.new w 90 #[.int .i64 m, .int .u64 n, .bool true])
  have hz : (w.alloc (.cells #[.int .i64 m, .int .u64 n, .bool true] 90)).heap.size = w.heap.size + 1 := World.size_alloc _ _
  have HRa := Lib.hid (hR.alloc (.cells #[.int .i64 m, .int .u64 n, .bool true] 90))
  have HS := Lib.hid hS
  have HSa := Lib.hid hSa
  have HZ := Lib.hid hz
  clear hR hS hSa hz
  generalize hrd : HeadP.read xs p = rd
  obtain ⟨m1, n1, o1, j1, e1⟩ := rd
  by_cases he1 : e1 = 0
  · subst he1
    have C1 := Lib.hid (head_ok g A c xs p left m1 n1 j1 o1 _ HRa.out HSa.out.lst HSa.out.bts HSa.out.cap HSa.out.max hrd)
    have HRD := Lib.hid hrd
    clear hrd
    go_enter Tryd.func80, Tryd.ntmps80
    go_wp2_with fail
    refine C1.out.mono ?_
    rintro e w1 ⟨rfl, HG1, HR1⟩
    go_wp2_with fail
    have HO1 := Lib.hid (nilRow (w1.alloc (.cells #[.int .i64 m1, .int .u64 n1, .bool o1] 90)) (w.heap.size + 1) 5 1)
    have HP1 := Lib.hid (Blk.new w1 90 #[.int .i64 m1, .int .u64 n1, .bool o1])
    have HR1a := Lib.hid (HR1.out.alloc (.cells #[.int .i64 m1, .int .u64 n1, .bool o1] 90))
    have HG1a := Lib.hid (only_alloc (only_trans (only_below HB0.out) HG1.out) (.cells #[.int .i64 m1, .int .u64 n1, .bool o1] 90))
    have HK1 := Lib.hid ((CbWrite.Blk.grown HK0.out HG1.out (by simp; omega)).alloc (.cells #[.int .i64 m1, .int .u64 n1, .bool o1] 90))
    have hz1 : (w1.alloc (.cells #[.int .i64 m1, .int .u64 n1, .bool o1] 90)).heap.size = w1.heap.size + 1 := World.size_alloc _ _
    have hz0 : w.heap.size < w1.heap.size := by have := HG1.out.size; have := HZ.out; omega
    have hk1 : w1.heap.size < (w1.alloc (.cells #[.int .i64 m1, .int .u64 n1, .bool o1] 90)).heap.size := by omega
    generalize w1.heap.size = k1 at *
    generalize w1.alloc (.cells #[.int .i64 m1, .int .u64 n1, .bool o1] 90) = W1 at *
    have hrb := HeadP.read_ok xs p HS.out.bts m1 n1 o1 j1 HRD.out
    clear hz1 HR1 HG1 HB0 HK0 HRa HSa
    go_loopg [5, 6] (xs.length - j1.toNat) (fun gk v pv wr => ∃ (acc : List Int) (k : Nat) (m2 n2 : Int) (o2 : Bool) (q j2 : Int), gk = xs.length - j2.toNat ∧ pv = .pointer (some ⟨k, 0, none⟩) ∧ w.heap.size < k ∧ k < wr.heap.size ∧ p ≤ q ∧ (acc.length : Int) ≤ q ∧ 0 ≤ q ∧ q < j2 ∧ j2 ≤ xs.length ∧ 0 ≤ n2 ∧
      Hid (HeadP.read xs q = (m2, n2, o2, j2, 0)) ∧ Hid (∀ r, ChunksR xs m left acc q r → ChunksR xs m left [] p r) ∧ Hid (∃ vv, vv = v ∧ wr.ownsRow (w.heap.size + 1) 5 1 vv acc.length (u8s acc)) ∧ Hid (Blk wr k 90 #[.int .i64 m2, .int .u64 n2, .bool o2]) ∧ Hid (Rdr wr g A c xs j2 left) ∧
      Hid (w.grownBy wr (some g)) ∧ Hid (Blk wr w.heap.size 90 #[.int .i64 m, .int .u64 n, .bool true]) ∧ Hid (St.bts acc))
    case atStart => exact ⟨[], k1, m1, n1, o1, p, j1, rfl, rfl, hz0, hk1, by omega, by simp; omega, by omega, by omega, by omega, by omega, HRD, Lib.hid (fun _ h => h), Lib.hid ⟨_, rfl, HO1.out⟩, HP1, HR1a, HG1a, HK1, Lib.hid (by intro x hx; cases hx)⟩
    case round =>
      obtain ⟨acc, k, m2, n2, o2, q, j2, hgk, rfl, hk0, hk1, hpq, haq, hq0, hqj, hjx, hn2, HRD2, HCH, ⟨vv, rfl, hO⟩, HP, HR2, HG2, HK2, HBT⟩ := hrel
      have HO := Lib.hid hO
      clear HO1 HP1 HR1a HG1a HK1 hO
      have hSr : Src wr g A c xs := HS.out.only hgl HG2.out
      have hszr := HG2.out.size
      obtain ⟨p0c, p1c, p2c⟩ := HP.out.three
      have C2 := Lib.hid (ends_any m2 n2 o2 wr)
      have HSR := Lib.hid hSr
      clear hSr
      go_wp2_with fail
      refine C2.out.mono ?_
      rintro e w2 ⟨rfl, hb2⟩
      have HPb := Lib.hid (HP.out.next hb2)
      have HRb := Lib.hid (HR2.out.below hb2)
      have HGb := Lib.hid (only_trans HG2.out (only_below hb2))
      have HKb := Lib.hid (HK2.out.next hb2)
      have HOb := Lib.hid (own_later HO.out hb2)
      have HSb := Lib.hid (HSR.out.below (hb2.mono (by omega)))
      have hsz2 := hb2.size
      clear hb2 C2 HP HR2 HG2 HK2 HO HSR p0c p1c p2c
      obtain ⟨p0c, p1c, p2c⟩ := HPb.out.three
      obtain ⟨q0c, q1c, q2c⟩ := HKb.out.three
      cases he : ends m2 n2 o2
      · have HE := Lib.hid he
        clear he
        cases o2
        · by_cases hm : m2 = m
          · subst hm
            have hmb : (m2 != m2) = false := by simp
            have hj0 : 0 ≤ j2 := by omega
            by_cases hn : (xs.length : Int) - j2 < n2
            · have C3 := Lib.hid (piece_short g A c xs j2 left m2 n2 false vv w2 HRb.out HSb.out.cap HSb.out.max hj0 hjx hn2 hn)
              have HC : Hid (BodyR xs m2 n true p left (.err 8)) := Lib.hid (by
                have := HCH.out (.err 8) (.cut HRD2.out (by unfold piece; rw [if_pos hn]))
                simpa [BodyR] using this)
              clear hn
              go_wp2_with fail
              refine C3.out.mono ?_
              rintro e w3 ⟨rfl, hb3⟩
              unfold fault
              go_wp2_with fail
              exact ⟨rfl, .err 8, HC.out, rfl, Lib.hid (only_trans HGb.out (only_below hb3))⟩
            · by_cases h3 : m2 = 3 ∧ U8.utf8 (chunk xs j2 n2) = false
              · have C3 := Lib.hid (piece_bad g A c xs j2 left m2 n2 false vv w2 HRb.out HSb.out.lst HSb.out.bts HSb.out.cap HSb.out.max hj0 hjx hn2 hn HSb.out.tabs h3.1 h3.2)
                have HC : Hid (BodyR xs m2 n true p left (.err 3)) := Lib.hid (by
                  have := HCH.out (.err 3) (.cut HRD2.out (by unfold piece; rw [if_neg hn, if_pos h3]))
                  simpa [BodyR] using this)
                clear hn h3
                go_wp2_with fail
                refine C3.out.mono ?_
                rintro e w3 ⟨rfl, hb3⟩
                unfold fault
                go_wp2_with fail
                exact ⟨rfl, .err 3, HC.out, rfl, Lib.hid (only_trans HGb.out (only_below hb3))⟩
              · have hlen := HSb.out.len
                have C3 := Lib.hid (piece_ok g (w.heap.size + 1) acc.length A c xs acc j2 left m2 n2 false vv w2 HRb.out HSb.out.lst HSb.out.bts HSb.out.cap HSb.out.max hj0 hjx hn2 hn HSb.out.tabs h3 HOb.out (by omega) (by omega) (by omega))
                have HCH3 : Hid (∀ r, ChunksR xs m2 left (acc ++ chunk xs j2 n2) (j2 + n2) r → ChunksR xs m2 left [] p r) := Lib.hid (fun r h => HCH.out r (.more HRD2.out (by unfold piece; rw [if_neg hn, if_neg h3]) h))
                have HL : Hid ((chunk xs j2 n2).length = n2.toNat) := Lib.hid (by unfold chunk; simp; omega)
                have HBT3 : Hid (St.bts (acc ++ chunk xs j2 n2)) := Lib.hid (fun x hx => by
                  rcases List.mem_append.1 hx with hx | hx
                  · exact HBT.out x hx
                  · exact chunk_bts xs j2 n2 HSb.out.bts x hx)
                have hjn : j2 + n2 ≤ xs.length := by omega
                clear hn h3
                go_wp2_with fail
                refine C3.out.mono ?_
                rintro e w3 ⟨v3, rfl, HO3, HR3, HT3, HA3⟩
                have hob : ∀ r, vv.ownBlock = some r → w.heap.size + 1 ≤ r := fun r hr => (HOb.out.lt r hr).1
                have hkv : vv.ownBlock ≠ some k := own_blk_ne HOb.out HPb.out (by decide)
                have HP3 := Lib.hid (HT3.out.blk HPb.out (by omega) hkv)
                have HK3 := Lib.hid (HT3.out.blk HKb.out (by omega) (fun e => by have := hob _ e; omega))
                have HG3 := Lib.hid (Two.after HGb.out HT3.out (fun r hr => by have := hob r hr; omega))
                have HS3 := Lib.hid (HSb.out.below (HT3.out.keep (by omega) (fun r hr => by have := hob r hr; omega)))
                have hsz3 := HT3.out.size
                clear C3 HPb HKb HGb HSb HT3 HRb HOb hob hkv HA3 p0c p1c p2c q0c q1c q2c
                obtain ⟨p0c, p1c, p2c⟩ := HP3.out.three
                have HR3a := Lib.hid (HR3.out.alloc (.cells #[.int .i64 m2, .int .u64 n2, .bool false] 90))
                have HS3a := Lib.hid (HS3.out.below (((Below.refl w3.heap.size w3).alloc (Nat.le_refl _) (.cells #[.int .i64 m2, .int .u64 n2, .bool false] 90)).mono (by omega)))
                have HP3a := Lib.hid (Blk.new w3 90 #[.int .i64 m2, .int .u64 n2, .bool false])
                have HK3a := Lib.hid (HK3.out.alloc (.cells #[.int .i64 m2, .int .u64 n2, .bool false] 90))
                have HG3a := Lib.hid (only_alloc HG3.out (.cells #[.int .i64 m2, .int .u64 n2, .bool false] 90))
                have HO3a := Lib.hid (own_later HO3.out ((Below.refl w3.heap.size w3).alloc (Nat.le_refl _) (.cells #[.int .i64 m2, .int .u64 n2, .bool false] 90)))
                have hz3 : (w3.alloc (.cells #[.int .i64 m2, .int .u64 n2, .bool false] 90)).heap.size = w3.heap.size + 1 := World.size_alloc _ _
                have hv3 : ∀ r, v3.ownBlock = some r → r < w3.heap.size := fun r hr => (HO3.out.lt r hr).2
                have HV3 := Lib.hid hv3
                have HLc : Hid ((acc ++ chunk xs j2 n2).length = acc.length + n2.toNat) := Lib.hid (by rw [List.length_append, HL.out])
                clear hv3
                generalize hrd4 : HeadP.read xs (j2 + n2) = rd4
                obtain ⟨m4, n4, o4, j4, e4⟩ := rd4
                by_cases he4 : e4 = 0
                · subst he4
                  have C4 := Lib.hid (head_ok g A c xs (j2 + n2) left m4 n4 j4 o4 _ HR3a.out HS3a.out.lst HS3a.out.bts HS3a.out.cap HS3a.out.max hrd4)
                  have hrb4 := HeadP.read_ok xs (j2 + n2) HS.out.bts m4 n4 o4 j4 hrd4
                  have HRD4 := Lib.hid hrd4
                  clear hrd4
                  go_wp2_with fail
                  have hzk : ∀ q, v3.ownBlock = some q → q ≠ w3.heap.size := fun q hq => by have := HV3.out q hq; omega
                  have HZK := Lib.hid hzk
                  have hov : ∀ q, v3.ownBlock = some q → w.heap.size + 1 ≤ q := fun q hq => (HO3.out.lt q hq).1
                  have HOV := Lib.hid hov
                  clear hzk hov HV3 HO3 HR3 HP3 HK3 HG3 HS3 p0c p1c p2c
                  have hk3 : w.heap.size < w3.heap.size := by omega
                  generalize w3.heap.size = k3 at *
                  generalize w3.alloc (.cells #[.int .i64 m2, .int .u64 n2, .bool false] 90) = W3 at *
                  refine C4.out.mono ?_
                  rintro e w4 ⟨rfl, HG4, HR4⟩
                  have HP4 := Lib.hid (CbWrite.Blk.grown HP3a.out HG4.out (by simp; omega))
                  have HK4 := Lib.hid (CbWrite.Blk.grown HK3a.out HG4.out (by simp; omega))
                  have HO4 := Lib.hid (HO3a.out.kept HG4.out (.inr (fun e => by have := HOV.out g e; omega)))
                  have hsz4 := HG4.out.size
                  have HG4a := Lib.hid (only_trans HG3a.out HG4.out)
                  obtain ⟨p0c, p1c, p2c⟩ := HP4.out.three
                  have f0 := HP4.out.frozen 0
                  have f1 := HP4.out.frozen 1
                  have f2 := HP4.out.frozen 2
                  clear C4 HG4 HP3a HK3a HO3a HR3a HS3a HG3a
                  go_wp2_with fail
                  go_roundg (xs.length - j4.toNat)
                  case measure => omega
                  case rel =>
                    refine ⟨acc ++ chunk xs j2 n2, k3, m4, n4, o4, j2 + n2, j4, rfl, rfl, hk3, ?_, by omega, ?_, by omega, by omega, by omega, by omega, HRD4, HCH3, Lib.hid ⟨_, rfl, ?_⟩, Lib.hid (blk_set3 HP4.out _ _ _), Lib.hid (blk_far3 HR4.out (by omega) _ _ _), Lib.hid (only_own HG4a.out (only_set3 (World.grownBy.refl _ _) _ _ _) (by omega)), Lib.hid (blk_far3 HK4.out (by omega) _ _ _), HBT3⟩
                    · simp [World.setCell]; omega
                    · rw [HLc.out]; omega
                    · rw [HLc.out]
                      exact HO4.out.kept (only_set3 (World.grownBy.refl w4 (some k3)) _ _ _) (.inr (fun e => HZK.out _ e rfl))
                · have C4 := Lib.hid (head_err g A c xs (j2 + n2) left m4 n4 j4 e4 o4 _ HR3a.out HS3a.out.lst HS3a.out.bts HS3a.out.cap HS3a.out.max hrd4 he4)
                  have HC : Hid (BodyR xs m2 n true p left (.err e4)) := Lib.hid (by
                    have := HCH3.out (.err e4) (.bad hrd4 he4)
                    simpa [BodyR] using this)
                  clear hrd4 he4
                  go_wp2_with fail
                  refine C4.out.mono ?_
                  rintro e w4 ⟨rfl, HG4⟩
                  unfold fault
                  go_wp2_with fail
                  exact ⟨rfl, .err e4, HC.out, rfl, Lib.hid (only_trans HG3a.out HG4.out)⟩
          · have hmb : (m2 != m) = true := by simpa using hm
            go_wp2_with fail
            have hc := HCH.out (.err 3) (.form HRD2.out HE.out (.inr hm))
            exact ⟨rfl, .err 3, by simpa [BodyR] using hc, rfl, HGb⟩
        · go_wp2_with fail
          have hc := HCH.out (.err 3) (.form HRD2.out HE.out (.inl rfl))
          exact ⟨rfl, .err 3, by simpa [BodyR] using hc, rfl, HGb⟩
      · have HE := Lib.hid he
        clear he
        obtain ⟨A1, c1, rfl, hc1, hm1⟩ := own_sl HOb.out
        go_wp2_with fail
        go_ret
        have hc := HCH.out _ (.stop HRD2.out HE.out)
        refine ⟨.ok acc j2 left, by simpa [BodyR] using hc, A1, c1, rfl, hc1, hm1, HBT, Lib.hid ((Seg.of_own HOb.out).more (by omega) (Nat.le_refl _)), HRb, HGb, by omega, hjx⟩
  · have C1 := Lib.hid (head_err g A c xs p left m1 n1 j1 e1 o1 _ HRa.out HSa.out.lst HSa.out.bts HSa.out.cap HSa.out.max hrd he1)
    have HC : Hid (BodyR xs m n true p left (.err e1)) := Lib.hid (by simpa [BodyR] using ChunksR.bad hrd he1)
    clear hrd he1
    go_enter Tryd.func80, Tryd.ntmps80
    go_wp2_with fail
    refine C1.out.mono ?_
    rintro e w1 ⟨rfl, HG1⟩
    unfold fault
    go_wp2_with fail
    exact ⟨rfl, _, HC.out, rfl, Lib.hid (only_trans (only_below HB0.out) HG1.out)⟩
theorem bytes_any (g : Nat) (A : Option Addr) (c : Nat) (xs : List Int) (p left m n : Int) (o : Bool) (w : World) (hR : Rdr w g A c xs p left) (hS : Src w g A c xs) (h0 : 0 ≤ p) (h1 : p ≤ xs.length) (hn0 : 0 ≤ n) :
    Calls Tryd.prog 80 #[.pointer (some ⟨g, 0, none⟩), .agg #[.int .i64 m, .int .u64 n, .bool o]] w fun e w' => ∃ r, BodyR xs m n o p left r ∧ BOut w g A c xs p e w' r := by
  cases o
  · exact bytes_closed g A c xs p left m n w hR hS h0 h1 hn0
  · exact bytes_open g A c xs p left m n w hR hS
end Go.Proofs.YtoieadbifhealaaDoor.CbBytes
