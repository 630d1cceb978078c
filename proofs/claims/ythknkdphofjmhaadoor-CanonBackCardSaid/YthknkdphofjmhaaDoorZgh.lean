/- Texts of my own, laid together: CbOpen, CbMany, CbItem, CbBody, CbRead, CbShort. -/
import Derived.Test.YthknkdphofjmhaaDoorZgf
import Derived.Test.YthknkdphofjmhaaDoorCbList
import Derived.Test.YthknkdphofjmhaaDoorZg4
import Derived.Deep.RegionHeld3
import Derived.Recover
import Derived.Defers
import Derived.BigRegion
import Derived.Test.YthknkdphofjmhaaDoorCbSame
import Derived.Test.YthknkdphofjmhaaDoorZg9
/- The contract of the reader's list, where it is open: on what item does one deeper. -/
namespace Go.Proofs.YthknkdphofjmhaaDoor.CbOpen
open Go.RowKit Wd Cb CbCopy CbRight CbWrite CbHead CbPiece CbBytes U8V CbList
attribute [local go_sem ↓] Go.wp_at_zero Go.wp_at_succ

/-- Items whose memory is none of the block r. -/
def Firm (w : World) (lo hi : Nat) (r : Option Nat) (l : List Itm) (vs : List Value) : Prop :=
  ∀ W : World, (∀ p : Addr, lo ≤ p.block → p.block < hi → r ≠ some p.block → W.cell? p = w.cell? p) → Reps W lo hi l vs
theorem Firm.none_ (w : World) (lo hi : Nat) (r : Option Nat) : Firm w lo hi r [] [] := fun _ _ => Reps.none_
theorem Firm.reps {w : World} {lo hi : Nat} {r : Option Nat} {l : List Itm} {vs : List Value} (h : Firm w lo hi r l vs) : Reps w lo hi l vs := h w fun _ _ _ _ => rfl
theorem Firm.keep {w w' : World} {lo hi : Nat} {r : Option Nat} {l : List Itm} {vs : List Value} (h : Firm w lo hi r l vs) (hk : ∀ p : Addr, lo ≤ p.block → p.block < hi → w'.cell? p = w.cell? p) : Firm w' lo hi r l vs :=
  fun W hW => h W fun p h1 h2 h3 => (hW p h1 h2 h3).trans (hk p h1 h2)
theorem Firm.more {w : World} {lo hi hi' : Nat} {r : Option Nat} {l : List Itm} {vs : List Value} (h : Firm w lo hi r l vs) (hh : hi ≤ hi') : Firm w lo hi' r l vs :=
  fun W hW => (h W fun p h1 h2 h3 => hW p h1 (by omega) h3).more (Nat.le_refl _) hh
theorem Firm.snoc {w w5 : World} {lo k : Nat} {r r' : Option Nat} {l : List Itm} {vs cs : List Value} {x : Itm} (F : Firm w lo k r l vs) (hx : Rep w k w.heap.size x cs) (hk : k ≤ w.heap.size) (hlo : lo ≤ k)
    (h5 : w.grownBy w5 r) (hr : ∀ q, r = some q → q < k) (hr' : r' = r ∨ r' = some w.heap.size) : Firm w5 lo w5.heap.size r' (l ++ [x]) (vs ++ cs) := by
  intro W hW
  have hs := h5.size
  have hne : ∀ q : Nat, q < w.heap.size → r ≠ some q → r' ≠ some q := fun q hq hn => by
    rcases hr' with rfl | rfl
    · exact hn
    · intro e; injection e; omega
  refine Reps.append ?_ (Reps.one ?_)
  · refine (F W fun p h1 h2 h3 => ?_).more (Nat.le_refl _) (by omega)
    rw [hW p h1 (by omega) (hne _ (by omega) h3)]
    exact World.cell?_of_block (h5.block p.block (by omega) (fun e => h3 e.symm))
  · refine Rep.more hlo hs (hx.keep fun p h1 h2 => ?_)
    have h3 : r ≠ some p.block := fun e => by have := hr _ e; omega
    rw [hW p (by omega) (by omega) (hne _ h2 h3)]
    exact World.cell?_of_block (h5.block p.block h2 (fun e => h3 e.symm))

/-- What item answers, and what it leaves. -/
def IOut (w : World) (g : Nat) (A : Option Addr) (c : Nat) (xs : List Int) (p left : Int) (e : Ending) (w' : World) : Res Itm → Prop
  | .err k => e = fault k ∧ Hid (w.grownBy w' (some g))
  | .ok x p' l' => ∃ v, e = .returned v ∧ Hid (ItemV w' w.heap.size w'.heap.size x v) ∧ Hid (Rdr w' g A c xs p' l') ∧ Hid (w.grownBy w' (some g)) ∧ p ≤ p' ∧ p' ≤ xs.length ∧ 0 ≤ l' ∧ l' < left
/-- What list answers, and what it leaves. -/
def LOut (w : World) (g : Nat) (A : Option Addr) (c : Nat) (xs : List Int) (p left : Int) (e : Ending) (w' : World) : Res (List Itm) → Prop
  | .err k => e = fault k ∧ Hid (w.grownBy w' (some g))
  | .ok l p' l' => ∃ A' c', e = .returned (.slice A' l.length c') ∧ l.length ≤ c' ∧ c' ≤ maxLen ∧ Hid (ItemsV w' w.heap.size w'.heap.size l A') ∧ Hid (Rdr w' g A c xs p' l') ∧ Hid (w.grownBy w' (some g)) ∧ p ≤ p' ∧ p' ≤ xs.length ∧ 0 ≤ l' ∧ l' + l.length ≤ left
/-- What is asked of item at a depth. -/
def ItemOk (g : Nat) (A : Option Addr) (c : Nat) (xs : List Int) (d : Nat) : Prop := ∀ (m n : Int) (o : Bool) (p left : Int) (w : World), Rdr w g A c xs p left → Src w g A c xs → 0 ≤ p → p ≤ xs.length → 0 ≤ n → n ≤ 18446744073709551615 → 0 ≤ left → left ≤ 256 →
  Calls Tryd.prog 102 #[.pointer (some ⟨g, 0, none⟩), .agg #[.int .i64 m, .int .u64 n, .bool o], .int .i64 d] w fun e w' => ∃ r, ItemR xs d m n o p left r ∧ IOut w g A c xs p left e w' r

theorem firm_ItemsV {w : World} {lo n cap : Nat} {A' : Option Addr} {l : List Itm} {vs : List Value} {e : TypeId} (hO : w.ownsRow lo e 4 (.slice A' n cap) n vs) (hF : Firm w lo w.heap.size (Value.ownBlock (.slice A' n cap)) l vs) : ItemsV w lo w.heap.size l A' := by
  exact ⟨vs, Seg.of_own hO, hF.reps⟩

set_option maxRecDepth 100000 in
set_option maxHeartbeats 2000000 in
theorem list_open (g : Nat) (A : Option Addr) (c : Nat) (xs : List Int) (d : Nat) (hd : d ≤ 6) (hI : ItemOk g A c xs (d + 1)) (p left m n : Int) (w : World) (hR : Rdr w g A c xs p left) (hS : Src w g A c xs) (hl0 : 0 ≤ left) (hl1 : left ≤ 256) :
    Calls Tryd.prog 110 #[.pointer (some ⟨g, 0, none⟩), .agg #[.int .i64 m, .int .u64 n, .bool true], .int .i64 d] w fun e w' => ∃ r, OpenR xs d [] p left r ∧ LOut w g A c xs p left e w' r := by
  obtain ⟨i0, hi0, hz0', hz1', hz2'⟩ := info_parts info_item
  have hgl := hR.lt
  have hSa : Src (w.alloc (.cells #[.int .i64 m, .int .u64 n, .bool true] 133)) g A c xs := hS.below (((Below.refl _ _).alloc (Nat.le_refl _) _).mono (Nat.le_of_lt hgl))
  have HB0 := Lib.hid ((Below.refl w.heap.size w).alloc (Nat.le_refl _) (.cells #[.int .i64 m, .int .u64 n, .bool true] 133))
  have hz : (w.alloc (.cells #[.int .i64 m, .int .u64 n, .bool true] 133)).heap.size = w.heap.size + 1 := World.size_alloc _ _
  have HRa := Lib.hid (hR.alloc (.cells #[.int .i64 m, .int .u64 n, .bool true] 133))
  have HS := Lib.hid hS
  have HSa := Lib.hid hSa
  have HZ := Lib.hid hz
  have HI := Lib.hid hI
  clear hR hS hSa hz hI
  generalize hrd : HeadP.read xs p = rd
  obtain ⟨m1, n1, o1, j1, e1⟩ := rd
  by_cases he1 : e1 = 0
  · subst he1
    have C1 := Lib.hid (head_ok g A c xs p left m1 n1 j1 o1 _ HRa.out HSa.out.lst HSa.out.bts HSa.out.cap HSa.out.max hrd)
    have HRD := Lib.hid hrd
    clear hrd
    go_enter Tryd.func110, Tryd.ntmps110
    go_wp2_with fail
    refine C1.out.mono ?_
    rintro e w1 ⟨rfl, HG1, HR1⟩
    go_wp2_with fail
    have HO1 := Lib.hid (nilRow (w1.alloc (.cells #[.int .i64 m1, .int .u64 n1, .bool o1] 133)) (w.heap.size + 1) 26 4)
    have HP1 := Lib.hid (Blk.new w1 133 #[.int .i64 m1, .int .u64 n1, .bool o1])
    have HR1a := Lib.hid (HR1.out.alloc (.cells #[.int .i64 m1, .int .u64 n1, .bool o1] 133))
    have HG1a := Lib.hid (only_alloc (only_trans (only_below HB0.out) HG1.out) (.cells #[.int .i64 m1, .int .u64 n1, .bool o1] 133))
    have hz1 : (w1.alloc (.cells #[.int .i64 m1, .int .u64 n1, .bool o1] 133)).heap.size = w1.heap.size + 1 := World.size_alloc _ _
    have hz0 : w.heap.size < w1.heap.size := by have := HG1.out.size; have := HZ.out; omega
    have hk1 : w1.heap.size < (w1.alloc (.cells #[.int .i64 m1, .int .u64 n1, .bool o1] 133)).heap.size := by omega
    generalize w1.heap.size = k1 at *
    generalize w1.alloc (.cells #[.int .i64 m1, .int .u64 n1, .bool o1] 133) = W1 at *
    have hrb := HeadP.read_ok xs p HS.out.bts m1 n1 o1 j1 HRD.out
    clear hz1 HR1 HG1 HB0 HRa HSa
    go_loopg [7, 8] (xs.length - j1.toNat) (fun gk v pv wr => ∃ (acc : List Itm) (vs : List Value) (k : Nat) (m2 n2 : Int) (o2 : Bool) (q j2 lf : Int), gk = xs.length - j2.toNat ∧ pv = .pointer (some ⟨k, 0, none⟩) ∧ w.heap.size < k ∧ k < wr.heap.size ∧ p ≤ q ∧ 0 ≤ q ∧ q < j2 ∧ j2 ≤ xs.length ∧ 0 ≤ n2 ∧ n2 ≤ 18446744073709551615 ∧ 0 ≤ lf ∧ lf + acc.length ≤ left ∧
      Hid (HeadP.read xs q = (m2, n2, o2, j2, 0)) ∧ Hid (∀ r, OpenR xs d acc q lf r → OpenR xs d [] p left r) ∧ Hid (∃ vv, vv = v ∧ wr.ownsRow (w.heap.size + 1) 26 4 vv acc.length vs ∧ Firm wr (w.heap.size + 1) wr.heap.size vv.ownBlock acc vs) ∧ Hid (Blk wr k 133 #[.int .i64 m2, .int .u64 n2, .bool o2]) ∧ Hid (Rdr wr g A c xs j2 lf) ∧
      Hid (w.grownBy wr (some g)))
    case atStart => exact ⟨[], [], k1, m1, n1, o1, p, j1, left, rfl, rfl, hz0, hk1, by omega, by omega, by omega, by omega, by omega, by omega, by omega, by simp, HRD, Lib.hid (fun _ h => h), Lib.hid ⟨_, rfl, HO1.out, Firm.none_ _ _ _ _⟩, HP1, HR1a, HG1a⟩
    case round =>
      obtain ⟨acc, vs, k, m2, n2, o2, q, j2, lf, hgk, rfl, hk0, hk1, hpq, hq0, hqj, hjx, hn2, hn2', hlf, hlf', HRD2, HCH, ⟨vv, rfl, hO, hF⟩, HP, HR2, HG2⟩ := hrel
      have HO := Lib.hid hO
      have HF := Lib.hid hF
      clear HO1 HP1 HR1a HG1a hO hF
      have hSr : Src wr g A c xs := HS.out.only hgl HG2.out
      have hszr := HG2.out.size
      obtain ⟨p0c, p1c, p2c⟩ := HP.out.three
      have C2 := Lib.hid (ends_any m2 n2 o2 wr)
      have HSR := Lib.hid hSr
      clear hSr
      go_wp2_with fail
      refine C2.out.mono ?_
      rintro e w2 ⟨rfl, hb2⟩
      have HPb := Lib.hid (HP.out.next hb2)
      have HRb := Lib.hid (HR2.out.below hb2)
      have HGb := Lib.hid (only_trans HG2.out (only_below hb2))
      have HOb := Lib.hid (own_later HO.out hb2)
      have HFb := Lib.hid ((HF.out.keep fun p _ h => hb2.cell h).more hb2.size)
      have HSb := Lib.hid (HSR.out.below (hb2.mono (by omega)))
      have hsz2 := hb2.size
      clear hb2 C2 HP HR2 HG2 HO HF HSR p0c p1c p2c
      obtain ⟨p0c, p1c, p2c⟩ := HPb.out.three
      cases he : ends m2 n2 o2
      · have HE := Lib.hid he
        clear he
        go_wp2_with fail
        have C3 := HI.out m2 n2 o2 j2 lf w2 HRb.out HSb.out (by omega) hjx hn2 hn2' hlf (by omega)
        have ed : ((d + 1 : Nat) : Int) = (d : Int) + 1 := by omega
        rw [ed] at C3
        refine C3.mono ?_
        clear ed C3
        rintro e w3 ⟨r3, hr3, ho3⟩
        cases r3 with
        | err e3 =>
          obtain ⟨rfl, HG3⟩ := ho3
          have HC : Hid (OpenR xs d [] p left (.err e3)) := Lib.hid (HCH.out _ (.cut HRD2.out HE.out hr3))
          clear hr3
          unfold fault
          go_wp2_with fail
          exact ⟨rfl, _, HC.out, rfl, Lib.hid (only_trans HGb.out HG3.out)⟩
        | ok x j3 l3 =>
          obtain ⟨v, rfl, HV, HR3, HG3, hj3, hj3', hl3, hl3'⟩ := ho3
          have HCH3 : Hid (∀ r, OpenR xs d (acc ++ [x]) j3 l3 r → OpenR xs d [] p left r) := Lib.hid (fun r h => HCH.out r (.more HRD2.out HE.out hr3 h))
          obtain ⟨cs, rfl, hrep⟩ := HV.out
          obtain ⟨A1, c1, A2, c2, rfl, _⟩ := hrep.open_
          have HREP := Lib.hid hrep
          clear hr3 hrep HV
          have hob : ∀ r, vv.ownBlock = some r → w.heap.size + 1 ≤ r ∧ r < w2.heap.size := fun r hr => HOb.out.lt r hr
          have hkv : vv.ownBlock ≠ some k := own_blk_ne HOb.out HPb.out (by decide)
          have hsz3 := HG3.out.size
          have hza : (w3.alloc (.cells #[.int .i64 x.kind, .int .u64 x.num, .slice A1 x.bs.length c1, .slice A2 x.sub.length c2] 26)).heap.size = w3.heap.size + 1 := World.size_alloc _ _
          have hba := (Below.refl w3.heap.size w3).alloc (Nat.le_refl _) (.cells #[.int .i64 x.kind, .int .u64 x.num, .slice A1 x.bs.length c1, .slice A2 x.sub.length c2] 26)
          have HSG : Hid (Seg (w3.alloc (.cells #[.int .i64 x.kind, .int .u64 x.num, .slice A1 x.bs.length c1, .slice A2 x.sub.length c2] 26)) 0 (w3.heap.size + 1) (some ⟨w3.heap.size, 0, none⟩) [.int .i64 x.kind, .int .u64 x.num, .slice A1 x.bs.length c1, .slice A2 x.sub.length c2]) :=
            Lib.hid (Seg.of_lst (Lst.lit w3 #[.int .i64 x.kind, .int .u64 x.num, .slice A1 x.bs.length c1, .slice A2 x.sub.length c2] 26))
          have HO3 := Lib.hid (own_later (HOb.out.kept HG3.out (.inr (fun e => by have := hob g e; omega))) hba)
          have HF3 := Lib.hid ((HFb.out.keep (fun q h1 h2 => World.cell?_of_block (HG3.out.block q.block (by omega) (fun e => by injection e; omega)))).keep (fun q _ h2 => hba.cell (by omega)))
          have HX3 := Lib.hid ((HREP.out.below hba).more (Nat.le_refl _) (show w3.heap.size ≤ (w3.alloc (.cells #[.int .i64 x.kind, .int .u64 x.num, .slice A1 x.bs.length c1, .slice A2 x.sub.length c2] 26)).heap.size by omega))
          have HP3 := Lib.hid ((CbWrite.Blk.grown HPb.out HG3.out (by simp; omega)).next hba)
          have HR3a := Lib.hid (HR3.out.below hba)
          have HG3a := Lib.hid (only_trans HGb.out (only_trans HG3.out (only_below hba)))
          have HS3 := Lib.hid ((HSb.out.only (by omega) HG3.out).below (hba.mono (by omega)))
          have HOB := Lib.hid hob
          have HKV := Lib.hid hkv
          have HM : acc.length + 1 ≤ maxLen := by unfold maxLen; omega
          have HMB : (acc.length + 1) * 64 ≤ 140737488355328 := by omega
          have HBS : w.heap.size + 1 ≤ (w3.alloc (.cells #[.int .i64 x.kind, .int .u64 x.num, .slice A1 x.bs.length c1, .slice A2 x.sub.length c2] 26)).heap.size := by omega
          clear hba hob hkv HREP HR3 HG3 HPb HRb HGb HOb HFb HSb p0c p1c p2c
          go_wp2_with (first
            | (at_builtin
               refine wpList_append_seg _ rfl (.tmp 18) (.tmp 24) _ (by rfl) (w.heap.size + 1) 26 i0 _ 64 Tryd.underlying24 hi0 hz0' 4 hz1' hz2' rfl (by omega) vv acc.length vs (by rfl) HO3.out
                 0 (w3.heap.size + 1) (some ⟨w3.heap.size, 0, none⟩) 1 1 [.int .i64 x.kind, .int .u64 x.num, .slice A1 x.bs.length c1, .slice A2 x.sub.length c2] (by rfl) rfl HSG.out (by simp [Value.oneCell']) HM HMB HBS ?_
               intro v4 w4 hown4 hg4 hat4
               have HO4 := Lib.hid hown4
               have HF4 := Lib.hid (HF3.out.snoc HX3.out (by omega) (by omega) hg4 (fun r hr => (HOB.out r hr).2) hat4)
               have HP4 := Lib.hid (CbWrite.Blk.grown HP3.out hg4 HKV.out)
               have HR4 := Lib.hid (CbWrite.Blk.grown HR3a.out hg4 (fun e => by have := HOB.out g e; omega))
               have HT4 := Lib.hid (Two.of_row hg4 g)
               obtain ⟨p0c, p1c, p2c⟩ := HP4.out.three
               clear hown4 hg4 hat4))
          have hsz4 := HT4.out.size
          have hz4 : (w4.alloc (.cells #[.int .i64 m2, .int .u64 n2, .bool o2] 133)).heap.size = w4.heap.size + 1 := World.size_alloc _ _
          have hb4 := (Below.refl w4.heap.size w4).alloc (Nat.le_refl _) (.cells #[.int .i64 m2, .int .u64 n2, .bool o2] 133)
          have HS4 := Lib.hid ((HS3.out.below (HT4.out.keep (by omega) (fun r hr => by have := HOB.out r hr; omega))).below (hb4.mono (by omega)))
          have HG4 := Lib.hid (only_trans (Two.after HG3a.out HT4.out (fun r hr => by have := HOB.out r hr; omega)) (only_below hb4))
          have HP4a := Lib.hid (Blk.new w4 133 #[.int .i64 m2, .int .u64 n2, .bool o2])
          have HR4a := Lib.hid ((show Rdr w4 g A c xs j3 l3 from HR4.out).below hb4)
          have HO4a := Lib.hid (own_later HO4.out hb4)
          have HF4a := Lib.hid (HF4.out.keep (fun q _ h2 => hb4.cell h2))
          have hzk : ∀ q, v4.ownBlock = some q → q ≠ w4.heap.size := fun q hq => by have := (HO4.out.lt q hq).2; omega
          have hov : ∀ q, v4.ownBlock = some q → w.heap.size + 1 ≤ q := fun q hq => (HO4.out.lt q hq).1
          have HZK := Lib.hid hzk
          have HOV := Lib.hid hov
          have hk4 : w.heap.size < w4.heap.size := by omega
          clear hb4 hzk hov HO3 HF3 HP3 HR3a HX3 HSG HS3 HG3a HT4 HR4 HP4 HO4 HF4 p0c p1c p2c HKV HOB
          generalize w4.heap.size = k4 at *
          generalize w4.alloc (.cells #[.int .i64 m2, .int .u64 n2, .bool o2] 133) = W4 at *
          generalize hrd4 : HeadP.read xs j3 = rd4
          obtain ⟨m5, n5, o5, j5, e5⟩ := rd4
          by_cases he5 : e5 = 0
          · subst he5
            have C5 := head_ok g A c xs j3 l3 m5 n5 j5 o5 _ HR4a.out HS4.out.lst HS4.out.bts HS4.out.cap HS4.out.max hrd4
            have hrb5 := HeadP.read_ok xs j3 HS.out.bts m5 n5 o5 j5 hrd4
            have HRD5 := Lib.hid hrd4
            clear hrd4
            refine C5.mono ?_
            clear C5
            rintro e w5 ⟨rfl, HG5, HR5⟩
            have HP5 := Lib.hid (CbWrite.Blk.grown HP4a.out HG5.out (by simp; omega))
            have HO5 := Lib.hid (HO4a.out.kept HG5.out (.inr (fun e => by have := HOV.out g e; omega)))
            have HF5 := Lib.hid (HF4a.out.keep (fun q h1 h2 => World.cell?_of_block (HG5.out.block q.block (by omega) (fun e => by injection e; omega))))
            have hsz5 := HG5.out.size
            have HG5a := Lib.hid (only_trans HG4.out HG5.out)
            obtain ⟨p0c, p1c, p2c⟩ := HP5.out.three
            have f0 := HP5.out.frozen 0
            have f1 := HP5.out.frozen 1
            have f2 := HP5.out.frozen 2
            clear HG5 HP4a HO4a HF4a HR4a HS4 HG4
            go_wp2_with fail
            go_roundg (xs.length - j5.toNat)
            case measure => omega
            case rel =>
              refine ⟨acc ++ [x], vs ++ [.int .i64 x.kind, .int .u64 x.num, .slice A1 x.bs.length c1, .slice A2 x.sub.length c2], k4, m5, n5, o5, j3, j5, l3, rfl, rfl, hk4, ?_, by omega, by omega, by omega, by omega, by omega, by omega, hl3, by simp; omega, HRD5, HCH3, Lib.hid ⟨_, rfl, ?_, ?_⟩, Lib.hid (blk_set3 HP5.out _ _ _), Lib.hid (blk_far3 HR5.out (by omega) _ _ _), Lib.hid (only_own HG5a.out (only_set3 (World.grownBy.refl _ _) _ _ _) (by omega))⟩
              · simp [World.setCell]; omega
              · have := HO5.out.kept (only_set3 (World.grownBy.refl w5 (some k4)) (.int .i64 m5) (.int .u64 n5) (.bool o5)) (.inr (fun e => HZK.out _ e rfl))
                simpa using this
              · refine (HF5.out.keep (fun q h1 h2 => ?_)).more ?_
                · exact World.cell?_of_block ((only_set3 (World.grownBy.refl w5 (some k4)) (.int .i64 m5) (.int .u64 n5) (.bool o5)).block q.block (by omega) (fun e => by injection e; omega))
                · simp [World.setCell]; omega
          · have C5 := head_err g A c xs j3 l3 m5 n5 j5 e5 o5 _ HR4a.out HS4.out.lst HS4.out.bts HS4.out.cap HS4.out.max hrd4 he5
            have HC : Hid (OpenR xs d [] p left (.err e5)) := Lib.hid (HCH3.out (.err e5) (.bad hrd4 he5))
            clear hrd4 he5
            refine C5.mono ?_
            clear C5
            rintro e w5 ⟨rfl, HG5⟩
            unfold fault
            go_wp2_with fail
            exact ⟨rfl, .err e5, HC.out, rfl, Lib.hid (only_trans HG4.out HG5.out)⟩
      · have HE := Lib.hid he
        clear he
        obtain ⟨A1, c1, rfl, hc1, hm1⟩ := own_sl HOb.out
        go_wp2_with fail
        go_ret
        have hc := HCH.out _ (.stop HRD2.out HE.out)
        exact ⟨.ok acc j2 lf, hc, A1, c1, rfl, hc1, hm1, Lib.hid ((firm_ItemsV HOb.out HFb.out).more (by omega) (Nat.le_refl _)), HRb, HGb, by omega, hjx, hlf, hlf'⟩
  · have C1 := Lib.hid (head_err g A c xs p left m1 n1 j1 e1 o1 _ HRa.out HSa.out.lst HSa.out.bts HSa.out.cap HSa.out.max hrd he1)
    have HC : Hid (OpenR xs d [] p left (.err e1)) := Lib.hid (.bad hrd he1)
    clear hrd he1
    go_enter Tryd.func110, Tryd.ntmps110
    go_wp2_with fail
    refine C1.out.mono ?_
    rintro e w1 ⟨rfl, HG1⟩
    unfold fault
    go_wp2_with fail
    exact ⟨rfl, _, HC.out, rfl, Lib.hid (only_trans (only_below HB0.out) HG1.out)⟩
end Go.Proofs.YthknkdphofjmhaaDoor.CbOpen
/- The contract of the reader's list, where it is counted: on what item does one deeper. -/
namespace Go.Proofs.YthknkdphofjmhaaDoor.CbMany
open Go.RowKit Wd Cb CbCopy CbRight CbWrite CbHead CbPiece CbBytes U8V CbList CbOpen
attribute [local go_sem ↓] Go.wp_at_zero Go.wp_at_succ

set_option maxRecDepth 100000 in
set_option maxHeartbeats 1000000 in
theorem list_need (g : Nat) (A : Option Addr) (c : Nat) (xs : List Int) (d : Nat) (p left m n : Int) (w : World) (hR : Rdr w g A c xs p left) (hS : Src w g A c xs) (h0 : 0 ≤ p) (h1 : p ≤ xs.length) (hn0 : 0 ≤ n) (hn : (xs.length : Int) - p < n) :
    Calls Tryd.prog 110 #[.pointer (some ⟨g, 0, none⟩), .agg #[.int .i64 m, .int .u64 n, .bool false], .int .i64 d] w fun e w' => e = fault 8 ∧ Hid (w.grownBy w' (some g)) := by
  have C1 := Lib.hid (need_err g A c xs p left n _ (hR.alloc (.cells #[.int .i64 m, .int .u64 n, .bool false] 133)) hS.cap hS.max h0 h1 hn0 hn)
  have HB0 := Lib.hid ((Below.refl w.heap.size w).alloc (Nat.le_refl _) (.cells #[.int .i64 m, .int .u64 n, .bool false] 133))
  clear hn hR hS
  go_enter Tryd.func110, Tryd.ntmps110
  go_wp2_with fail
  refine C1.out.mono ?_
  rintro e w1 ⟨rfl, q, rfl⟩
  unfold fault
  go_wp2_with fail
  exact ⟨rfl, rfl, Lib.hid (only_below (below_drewNv HB0.out q))⟩

set_option maxRecDepth 100000 in
set_option maxHeartbeats 2000000 in
theorem list_many (g : Nat) (A : Option Addr) (c : Nat) (xs : List Int) (d : Nat) (hd : d ≤ 6) (hI : ItemOk g A c xs (d + 1)) (p left m n : Int) (w : World) (hR : Rdr w g A c xs p left) (hS : Src w g A c xs) (h0 : 0 ≤ p) (h1 : p ≤ xs.length) (hn0 : 0 ≤ n) (hn : ¬ (xs.length : Int) - p < n) (hl0 : 0 ≤ left) (hl1 : left ≤ 256) :
    Calls Tryd.prog 110 #[.pointer (some ⟨g, 0, none⟩), .agg #[.int .i64 m, .int .u64 n, .bool false], .int .i64 d] w fun e w' => ∃ r, ManyR xs d n.toNat [] p left r ∧ LOut w g A c xs p left e w' r := by
  obtain ⟨i0, hi0, hz0', hz1', hz2'⟩ := info_parts info_item
  have hgl := hR.lt
  have hlen := hS.len
  have C1 := Lib.hid (need_ok g A c xs p left n _ (hR.alloc (.cells #[.int .i64 m, .int .u64 n, .bool false] 133)) hS.cap hS.max h0 h1 hn0 hn)
  have HB0 := Lib.hid ((Below.refl w.heap.size w).alloc (Nat.le_refl _) (.cells #[.int .i64 m, .int .u64 n, .bool false] 133))
  have hz : (w.alloc (.cells #[.int .i64 m, .int .u64 n, .bool false] 133)).heap.size = w.heap.size + 1 := World.size_alloc _ _
  have HRa := Lib.hid (hR.alloc (.cells #[.int .i64 m, .int .u64 n, .bool false] 133))
  have HK0 := Lib.hid (Blk.new w 133 #[.int .i64 m, .int .u64 n, .bool false])
  have HS := Lib.hid hS
  have HI := Lib.hid hI
  obtain ⟨nn, rfl⟩ := Int.eq_ofNat_of_zero_le hn0
  clear hR hS hI
  go_enter Tryd.func110, Tryd.ntmps110
  go_wp2_with fail
  refine C1.out.mono ?_
  rintro e w1 ⟨rfl, q1, rfl⟩
  have HR1 : Hid (Rdr ((w.alloc (.cells #[.int .i64 m, .int .u64 nn, .bool false] 133)).drewN q1) g A c xs p left) := Lib.hid (HRa.out.drewN q1)
  have HK1 : Hid (Blk ((w.alloc (.cells #[.int .i64 m, .int .u64 nn, .bool false] 133)).drewN q1) w.heap.size 133 #[.int .i64 m, .int .u64 nn, .bool false]) := Lib.hid (HK0.out.drewN q1)
  have HB1 := Lib.hid (below_drewNv HB0.out q1)
  have hz1 : ((w.alloc (.cells #[.int .i64 m, .int .u64 nn, .bool false] 133)).drewN q1).heap.size = w.heap.size + 1 := hz
  clear C1 HB0 HRa HK0 hz
  generalize (w.alloc (.cells #[.int .i64 m, .int .u64 nn, .bool false] 133)).drewN q1 = W1 at *
  obtain ⟨k0, k1, k2⟩ := HK1.out.three
  have HO1 := Lib.hid (nilRow W1 (w.heap.size + 1) 26 4)
  have HG1 : Hid (w.grownBy W1 (some g)) := Lib.hid (only_below HB1.out)
  go_wp2_with fail
  clear k0 k1 k2 HK1 HB1
  go_loopg [7, 34] nn (fun gk v iv wr => ∃ (acc : List Itm) (vs : List Value) (i : Nat) (q lf : Int), gk = nn - i ∧ iv = .int .u64 i ∧ i ≤ nn ∧ w.heap.size < wr.heap.size ∧ p ≤ q ∧ q ≤ xs.length ∧ 0 ≤ lf ∧ lf + acc.length ≤ left ∧
      Hid (∀ r, ManyR xs d (nn - i) acc q lf r → ManyR xs d nn [] p left r) ∧ Hid (∃ vv, vv = v ∧ wr.ownsRow (w.heap.size + 1) 26 4 vv acc.length vs ∧ Firm wr (w.heap.size + 1) wr.heap.size vv.ownBlock acc vs) ∧ Hid (Rdr wr g A c xs q lf) ∧ Hid (w.grownBy wr (some g)))
  case atStart => exact ⟨[], [], 0, p, left, rfl, rfl, by omega, by omega, by omega, by omega, by omega, by simp, Lib.hid (fun _ h => h), Lib.hid ⟨_, rfl, HO1.out, Firm.none_ _ _ _ _⟩, HR1, HG1⟩
  case round =>
    obtain ⟨acc, vs, i, q, lf, hgk, rfl, hin, hzr, hpq, hqx, hlf, hlf', HCH, ⟨vv, rfl, hO, hF⟩, HR2, HG2⟩ := hrel
    have HO := Lib.hid hO
    have HF := Lib.hid hF
    have HSr := Lib.hid (HS.out.only hgl HG2.out)
    clear HO1 HR1 HG1 hO hF
    by_cases hi : i < nn
    · go_wp2_with fail
      obtain ⟨kk, hk1, hk2⟩ : ∃ kk, nn - i = kk + 1 ∧ nn - (i + 1) = kk := ⟨nn - (i + 1), by omega, rfl⟩
      have HCHk : Hid (∀ r, ManyR xs d (kk + 1) acc q lf r → ManyR xs d nn [] p left r) := Lib.hid (by rw [← hk1]; exact HCH.out)
      have HK2 := Lib.hid hk2
      clear HCH hk1 hk2
      generalize hrd2 : HeadP.read xs q = rd2
      obtain ⟨m2, n2, o2, j2, e2⟩ := rd2
      by_cases he2 : e2 = 0
      · subst he2
        have C2 := head_ok g A c xs q lf m2 n2 j2 o2 _ HR2.out HSr.out.lst HSr.out.bts HSr.out.cap HSr.out.max hrd2
        have hrb2 := HeadP.read_ok xs q HS.out.bts m2 n2 o2 j2 hrd2
        have HRD2 := Lib.hid hrd2
        clear hrd2
        refine C2.mono ?_
        clear C2
        rintro e w2 ⟨rfl, HG2b, HRb⟩
        have HGb := Lib.hid (only_trans HG2.out HG2b.out)
        have HOb := Lib.hid (HO.out.kept HG2b.out (.inr (fun e => by have := (HO.out.lt g e).1; omega)))
        have HFb := Lib.hid ((HF.out.keep (fun q h1 h2 => World.cell?_of_block (HG2b.out.block q.block h2 (fun e => by injection e; omega)))).more HG2b.out.size)
        have HSb := Lib.hid (HSr.out.only (by omega) HG2b.out)
        have hsz2 := HG2b.out.size
        clear HG2b HG2 HO HF HSr HR2
        go_wp2_with fail
        have C3 := HI.out m2 n2 o2 j2 lf w2 HRb.out HSb.out (by omega) hrb2.2.2.1 hrb2.2.2.2.2.1 hrb2.2.2.2.2.2 hlf (by omega)
        have ed : ((d + 1 : Nat) : Int) = (d : Int) + 1 := by omega
        rw [ed] at C3
        refine C3.mono ?_
        clear ed C3
        rintro e w3 ⟨r3, hr3, ho3⟩
        cases r3 with
        | err e3 =>
          obtain ⟨rfl, HG3⟩ := ho3
          have HC : Hid (ManyR xs d nn [] p left (.err e3)) := Lib.hid (HCHk.out _ (.cut HRD2.out hr3))
          clear hr3
          unfold fault
          go_wp2_with fail
          exact ⟨rfl, _, HC.out, rfl, Lib.hid (only_trans HGb.out HG3.out)⟩
        | ok x j3 l3 =>
          obtain ⟨v, rfl, HV, HR3, HG3, hj3, hj3', hl3, hl3'⟩ := ho3
          have HCH3 : Hid (∀ r, ManyR xs d (nn - (i + 1)) (acc ++ [x]) j3 l3 r → ManyR xs d nn [] p left r) := Lib.hid (fun r h => HCHk.out r (.more HRD2.out hr3 (by rw [← HK2.out]; exact h)))
          obtain ⟨cs, rfl, hrep⟩ := HV.out
          obtain ⟨A1, c1, A2, c2, rfl, _⟩ := hrep.open_
          have HREP := Lib.hid hrep
          clear hr3 hrep HV HCHk
          have hob : ∀ r, vv.ownBlock = some r → w.heap.size + 1 ≤ r ∧ r < w2.heap.size := fun r hr => HOb.out.lt r hr
          have hsz3 := HG3.out.size
          have hza : (w3.alloc (.cells #[.int .i64 x.kind, .int .u64 x.num, .slice A1 x.bs.length c1, .slice A2 x.sub.length c2] 26)).heap.size = w3.heap.size + 1 := World.size_alloc _ _
          have hba := (Below.refl w3.heap.size w3).alloc (Nat.le_refl _) (.cells #[.int .i64 x.kind, .int .u64 x.num, .slice A1 x.bs.length c1, .slice A2 x.sub.length c2] 26)
          have HSG : Hid (Seg (w3.alloc (.cells #[.int .i64 x.kind, .int .u64 x.num, .slice A1 x.bs.length c1, .slice A2 x.sub.length c2] 26)) 0 (w3.heap.size + 1) (some ⟨w3.heap.size, 0, none⟩) [.int .i64 x.kind, .int .u64 x.num, .slice A1 x.bs.length c1, .slice A2 x.sub.length c2]) :=
            Lib.hid (Seg.of_lst (Lst.lit w3 #[.int .i64 x.kind, .int .u64 x.num, .slice A1 x.bs.length c1, .slice A2 x.sub.length c2] 26))
          have HO3 := Lib.hid (own_later (HOb.out.kept HG3.out (.inr (fun e => by have := hob g e; omega))) hba)
          have HF3 := Lib.hid ((HFb.out.keep (fun q h1 h2 => World.cell?_of_block (HG3.out.block q.block (by omega) (fun e => by injection e; omega)))).keep (fun q _ h2 => hba.cell (by omega)))
          have HX3 := Lib.hid ((HREP.out.below hba).more (Nat.le_refl _) (show w3.heap.size ≤ (w3.alloc (.cells #[.int .i64 x.kind, .int .u64 x.num, .slice A1 x.bs.length c1, .slice A2 x.sub.length c2] 26)).heap.size by omega))
          have HR3a := Lib.hid (HR3.out.below hba)
          have HG3a := Lib.hid (only_trans HGb.out (only_trans HG3.out (only_below hba)))
          have HOB := Lib.hid hob
          have HM : acc.length + 1 ≤ maxLen := by unfold maxLen; omega
          have HMB : (acc.length + 1) * 64 ≤ 140737488355328 := by omega
          have HBS : w.heap.size + 1 ≤ (w3.alloc (.cells #[.int .i64 x.kind, .int .u64 x.num, .slice A1 x.bs.length c1, .slice A2 x.sub.length c2] 26)).heap.size := by omega
          have hiw : IntKind.u64.wrap ((i : Int) + 1) = (i : Int) + 1 := by rw [IntKind.wrap_u64]; omega
          clear hba hob HREP HR3 HG3 HRb HGb HOb HFb HSb
          go_wp2_with (first
            | (at_builtin
               refine wpList_append_seg _ rfl (.tmp 36) (.tmp 43) _ (by rfl) (w.heap.size + 1) 26 i0 _ 64 Tryd.underlying24 hi0 hz0' 4 hz1' hz2' rfl (by omega) vv acc.length vs (by rfl) HO3.out
                 0 (w3.heap.size + 1) (some ⟨w3.heap.size, 0, none⟩) 1 1 [.int .i64 x.kind, .int .u64 x.num, .slice A1 x.bs.length c1, .slice A2 x.sub.length c2] (by rfl) rfl HSG.out (by simp [Value.oneCell']) HM HMB HBS ?_
               intro v4 w4 hown4 hg4 hat4
               have HO4 := Lib.hid hown4
               have HF4 := Lib.hid (HF3.out.snoc HX3.out (by omega) (by omega) hg4 (fun r hr => (HOB.out r hr).2) hat4)
               have HR4 := Lib.hid (CbWrite.Blk.grown HR3a.out hg4 (fun e => by have := HOB.out g e; omega))
               have HT4 := Lib.hid (Two.of_row hg4 g)
               clear hown4 hg4 hat4))
          have hsz4 := HT4.out.size
          have HG4 := Lib.hid (Two.after HG3a.out HT4.out (fun r hr => by have := HOB.out r hr; omega))
          go_roundg (nn - (i + 1))
          case measure => omega
          case rel =>
            refine ⟨acc ++ [x], vs ++ [.int .i64 x.kind, .int .u64 x.num, .slice A1 x.bs.length c1, .slice A2 x.sub.length c2], i + 1, j3, l3, rfl, by first | rfl | (congr 1), by omega, by omega, by omega, by omega, hl3, by simp; omega, HCH3, Lib.hid ⟨_, rfl, by simpa using HO4.out, HF4.out⟩, HR4, HG4⟩
      · have C2 := head_err g A c xs q lf m2 n2 j2 e2 o2 _ HR2.out HSr.out.lst HSr.out.bts HSr.out.cap HSr.out.max hrd2 he2
        have HC : Hid (ManyR xs d nn [] p left (.err e2)) := Lib.hid (HCHk.out (.err e2) (.bad hrd2 he2))
        clear hrd2 he2
        refine C2.mono ?_
        clear C2
        rintro e w2 ⟨rfl, HG2b⟩
        unfold fault
        go_wp2_with fail
        exact ⟨rfl, .err e2, HC.out, rfl, Lib.hid (only_trans HG2.out HG2b.out)⟩
    · obtain rfl : i = nn := by omega
      obtain ⟨A1, c1, rfl, hc1, hm1⟩ := own_sl HO.out
      go_wp2_with fail
      go_ret
      have hc := HCH.out (.ok acc q lf) (by rw [Nat.sub_self]; exact .done)
      exact ⟨.ok acc q lf, by simpa using hc, A1, c1, rfl, hc1, hm1, Lib.hid ((firm_ItemsV HO.out HF.out).more (by omega) (Nat.le_refl _)), HR2, HG2, by omega, hqx, hlf, hlf'⟩
end Go.Proofs.YthknkdphofjmhaaDoor.CbMany
/- The contract of the reader's item. -/
namespace Go.Proofs.YthknkdphofjmhaaDoor.CbItem
open Go.RowKit Wd Cb CbCopy CbRight CbWrite CbHead CbPiece CbBytes U8V CbList CbOpen CbMany
attribute [local go_sem ↓] Go.wp_at_zero Go.wp_at_succ

set_option maxRecDepth 100000 in
set_option maxHeartbeats 1000000 in
theorem item_form (g d : Nat) (m n : Int) (o : Bool) (w : World) (h : ¬ mayBe m) :
    Calls Tryd.prog 102 #[.pointer (some ⟨g, 0, none⟩), .agg #[.int .i64 m, .int .u64 n, .bool o], .int .i64 d] w fun e w' => e = fault 3 ∧ Below w.heap.size w w' := by
  have h0 : (m == 0) = false := by simp; intro e; exact h (.inl e)
  have h2 : (m == 2) = false := by simp; intro e; exact h (.inr (.inl e))
  have h3 : (m == 3) = false := by simp; intro e; exact h (.inr (.inr (.inl e)))
  have h4 : (m == 4) = false := by simp; intro e; exact h (.inr (.inr (.inr e)))
  have HB := Lib.hid (((Below.refl w.heap.size w).alloc (Nat.le_refl _) (.cells #[.int .i64 m, .int .u64 n, .bool o] 133)).alloc (by simp) (.cells #[.int .i64 0, .int .u64 0, .slice none 0 0, .slice none 0 0] 26))
  clear h
  go_enter Tryd.func102, Tryd.ntmps102
  go_wp2_with fail
  exact ⟨rfl, rfl, HB.out⟩
set_option maxRecDepth 100000 in
set_option maxHeartbeats 1000000 in
theorem item_deep (g d : Nat) (m n : Int) (o : Bool) (w : World) (h : mayBe m) (hd : 6 < d) (hd2 : d ≤ 7) :
    Calls Tryd.prog 102 #[.pointer (some ⟨g, 0, none⟩), .agg #[.int .i64 m, .int .u64 n, .bool o], .int .i64 d] w fun e w' => e = fault 9 ∧ Below w.heap.size w w' := by
  obtain rfl : d = 7 := by omega
  have HB := Lib.hid (((Below.refl w.heap.size w).alloc (Nat.le_refl _) (.cells #[.int .i64 m, .int .u64 n, .bool o] 133)).alloc (by simp) (.cells #[.int .i64 0, .int .u64 0, .slice none 0 0, .slice none 0 0] 26))
  clear hd hd2
  rcases h with rfl | rfl | rfl | rfl
  all_goals go_enter Tryd.func102, Tryd.ntmps102
  all_goals go_wp2_with fail
  all_goals exact ⟨rfl, rfl, HB.out⟩
set_option maxRecDepth 100000 in
set_option maxHeartbeats 1000000 in
theorem item_long (g d : Nat) (A : Option Addr) (c : Nat) (xs : List Int) (p : Int) (m n : Int) (o : Bool) (w : World) (hR : Rdr w g A c xs p 0) (h : mayBe m) (hd : d ≤ 6) :
    Calls Tryd.prog 102 #[.pointer (some ⟨g, 0, none⟩), .agg #[.int .i64 m, .int .u64 n, .bool o], .int .i64 d] w fun e w' => e = fault 2 ∧ Below w.heap.size w w' := by
  have HB := Lib.hid (((Below.refl w.heap.size w).alloc (Nat.le_refl _) (.cells #[.int .i64 m, .int .u64 n, .bool o] 133)).alloc (by simp) (.cells #[.int .i64 0, .int .u64 0, .slice none 0 0, .slice none 0 0] 26))
  have hdb : decide ((d : Int) > 6) = false := decide_eq_false (by omega)
  have hdc : decide ((6 : Int) < d) = false := decide_eq_false (by omega)
  obtain ⟨c0, c1, c2⟩ := ((hR.alloc (.cells #[.int .i64 m, .int .u64 n, .bool o] 133)).alloc (.cells #[.int .i64 0, .int .u64 0, .slice none 0 0, .slice none 0 0] 26)).cells
  clear hR
  rcases h with rfl | rfl | rfl | rfl
  all_goals go_enter Tryd.func102, Tryd.ntmps102
  all_goals go_wp2_with fail
  all_goals exact ⟨rfl, rfl, HB.out⟩
theorem blk_set4 {w : World} {k : Nat} {t : TypeId} {x y z u : Value} (h : Blk w k t #[x, y, z, u]) (a b c d : Value) : Blk ((((w.setCell ⟨k, 0, none⟩ a).setCell ⟨k, 1, none⟩ b).setCell ⟨k, 2, none⟩ c).setCell ⟨k, 3, none⟩ d) k t #[a, b, c, d] := by
  simpa using (((h.set_ 0 a).set_ 1 b).set_ 2 c).set_ 3 d
theorem blk_far4 {w : World} {k r : Nat} {t : TypeId} {cs : Array Value} (h : Blk w r t cs) (hr : r ≠ k) (a b c d : Value) : Blk ((((w.setCell ⟨k, 0, none⟩ a).setCell ⟨k, 1, none⟩ b).setCell ⟨k, 2, none⟩ c).setCell ⟨k, 3, none⟩ d) r t cs :=
  (((h.far (p := ⟨k, 0, none⟩) hr a).far (p := ⟨k, 1, none⟩) hr b).far (p := ⟨k, 2, none⟩) hr c).far (p := ⟨k, 3, none⟩) hr d
theorem blk_four {w : World} {g : Nat} {t : TypeId} {x y z u : Value} (h : Blk w g t #[x, y, z, u]) :
    (w.cell? ⟨g, 0, none⟩ = some x ∧ w.cell? ⟨g, 1, none⟩ = some y ∧ w.cell? ⟨g, 2, none⟩ = some z ∧ w.cell? ⟨g, 3, none⟩ = some u) ∧ (w.frozen? ⟨g, 0, none⟩ = false ∧ w.frozen? ⟨g, 1, none⟩ = false ∧ w.frozen? ⟨g, 2, none⟩ = false ∧ w.frozen? ⟨g, 3, none⟩ = false) :=
  ⟨⟨by simpa using h.cell 0, by simpa using h.cell 1, by simpa using h.cell 2, by simpa using h.cell 3⟩, h.frozen 0, h.frozen 1, h.frozen 2, h.frozen 3⟩
theorem grown4 {a w : World} {g b : Nat} (h : a.grownBy w (some g)) (hb : a.heap.size ≤ b) (x y z u : Value) : a.grownBy ((((w.setCell ⟨b, 0, none⟩ x).setCell ⟨b, 1, none⟩ y).setCell ⟨b, 2, none⟩ z).setCell ⟨b, 3, none⟩ u) (some g) :=
  only_own h (only_set4 (World.grownBy.refl _ _) _ _ _ _) hb

/-- The state behind the count, ahead of the second switch: the reader, the head's box, the answer's box. -/
structure Mid (w W : World) (g : Nat) (A : Option Addr) (c : Nat) (xs : List Int) (p left m n : Int) (o : Bool) : Prop where
  rdr : Rdr W g A c xs p (left - 1)
  hd : Blk W w.heap.size 133 #[.int .i64 m, .int .u64 n, .bool o]
  res : Blk W (w.heap.size + 1) 26 #[.int .i64 0, .int .u64 0, .slice none 0 0, .slice none 0 0]
  src : Src W g A c xs
  grown : w.grownBy W (some g)
  size : w.heap.size + 2 = W.heap.size
theorem mid_of {w : World} {g : Nat} {A : Option Addr} {c : Nat} {xs : List Int} {p left m n : Int} {o : Bool} (hR : Rdr w g A c xs p left) (hS : Src w g A c xs) :
    Mid w (((w.setCell ⟨g, 2, none⟩ (.int .i64 (left - 1))).alloc (.cells #[.int .i64 m, .int .u64 n, .bool o] 133)).alloc (.cells #[.int .i64 0, .int .u64 0, .slice none 0 0, .slice none 0 0] 26)) g A c xs p left m n o := by
  have hgl := hR.lt
  have hz0 : (w.setCell ⟨g, 2, none⟩ (.int .i64 (left - 1))).heap.size = w.heap.size := by simp [World.setCell]
  have hr : Rdr (w.setCell ⟨g, 2, none⟩ (.int .i64 (left - 1))) g A c xs p (left - 1) := by
    have h := Blk.set_ (show Blk w g 154 #[.slice A xs.length c, .int .i64 p, .int .i64 left] from hR) 2 (.int .i64 (left - 1))
    simpa [Rdr] using h
  have hg0 : w.grownBy (w.setCell ⟨g, 2, none⟩ (.int .i64 (left - 1))) (some g) := only_set (World.grownBy.refl _ _) rfl _
  generalize w.setCell ⟨g, 2, none⟩ (.int .i64 (left - 1)) = V at *
  have hz : (V.alloc (.cells #[.int .i64 m, .int .u64 n, .bool o] 133)).heap.size = w.heap.size + 1 := by rw [World.size_alloc, hz0]
  have hB0 := ((Below.refl V.heap.size V).alloc (Nat.le_refl _) (.cells #[.int .i64 m, .int .u64 n, .bool o] 133)).alloc (by omega) (.cells #[.int .i64 0, .int .u64 0, .slice none 0 0, .slice none 0 0] 26)
  have hg : w.grownBy ((V.alloc (.cells #[.int .i64 m, .int .u64 n, .bool o] 133)).alloc (.cells #[.int .i64 0, .int .u64 0, .slice none 0 0, .slice none 0 0] 26)) (some g) := only_trans hg0 (only_below hB0)
  refine ⟨hr.below hB0, ?_, ?_, hS.only hgl hg, hg, ?_⟩
  · rw [← hz0]
    exact (Blk.new V _ _).alloc _
  · have h := Blk.new (V.alloc (.cells #[.int .i64 m, .int .u64 n, .bool o] 133)) 26 #[.int .i64 0, .int .u64 0, .slice none 0 0, .slice none 0 0]
    rw [hz] at h
    exact h
  · rw [World.size_alloc, hz]

set_option maxRecDepth 100000 in
set_option maxHeartbeats 1000000 in
theorem item_num (g d : Nat) (A : Option Addr) (c : Nat) (xs : List Int) (p left : Int) (n : Int) (o : Bool) (w : World) (hR : Rdr w g A c xs p left) (hS : Src w g A c xs) (hd : d ≤ 6) (hl0 : 0 ≤ left) (hl1 : left ≤ 256) (hl : left ≠ 0) (hpx : p ≤ xs.length) (hn0 : 0 ≤ n) (hn1 : n ≤ 18446744073709551615) :
    Calls Tryd.prog 102 #[.pointer (some ⟨g, 0, none⟩), .agg #[.int .i64 0, .int .u64 n, .bool o], .int .i64 d] w fun e w' => ∃ r, ItemR xs d 0 n o p left r ∧ IOut w g A c xs p left e w' r := by
  have hdb : decide ((d : Int) > 6) = false := decide_eq_false (by omega)
  have hdc : decide ((6 : Int) < d) = false := decide_eq_false (by omega)
  have hlb : (left == 0) = false := by simpa using hl
  have hlw : IntKind.i64.wrap (left - 1) = left - 1 := by rw [IntKind.wrap_i64]; omega
  have hlp : 0 < left := by omega
  have hgl := hR.lt
  have HM := Lib.hid (mid_of (m := 0) (n := n) (o := o) hR hS)
  have hr0 := (hR.alloc (.cells #[.int .i64 0, .int .u64 n, .bool o] 133)).alloc (.cells #[.int .i64 0, .int .u64 0, .slice none 0 0, .slice none 0 0] 26)
  obtain ⟨c0, c1, c2⟩ := hr0.cells
  have f2 := hr0.frozen 2
  obtain ⟨k0, k1, k2⟩ := HM.out.hd.three
  have HI : Hid (ItemR xs d 0 n o p left (.ok (.mk 0 n [] []) p (left - 1))) := Lib.hid (.num hd hl)
  clear hR hr0 hS hl
  go_enter Tryd.func102, Tryd.ntmps102
  go_wp2_with fail
  generalize ((w.setCell ⟨g, 2, none⟩ (.int .i64 (left - 1))).alloc (.cells #[.int .i64 0, .int .u64 n, .bool o] 133)).alloc (.cells #[.int .i64 0, .int .u64 0, .slice none 0 0, .slice none 0 0] 26) = W1 at *
  refine (num_any n W1 hn0 hn1).mono ?_
  rintro e w2 ⟨rfl, hb2⟩
  have hres := HM.out.res.next hb2
  obtain ⟨⟨d0, d1, d2, d3⟩, e0, e1, e2, e3⟩ := blk_four hres
  have HG2 := Lib.hid (only_trans HM.out.grown (only_below hb2))
  have HR2 := Lib.hid (HM.out.rdr.below hb2)
  have hs2 := hb2.size
  clear hb2 hres
  go_wp2_with fail
  refine bodyPost_ret (v := .agg #[.int .i64 0, .int .u64 n, .slice none 0 0, .slice none 0 0]) (by simp [results, Tryd.results102, go_sem, d0, d1, d2, d3, e0, e1, e2, e3]) rfl ⟨_, HI.out, _, rfl, Lib.hid ?_, Lib.hid (blk_far4 HR2.out (by omega) _ _ _ _), Lib.hid (grown4 HG2.out (by omega) _ _ _ _), by omega, hpx, by omega, by omega⟩
  exact ItemV.mk (b := []) (l := []) (by omega) ⟨hn0, hn1⟩ (by intro x hx; cases hx) (Nat.le_refl _) (by simp) .nil (Nat.le_refl _) (by simp) .nil
/-- What a list's items are, behind its head. -/
def ListR (xs : List Int) (d : Nat) (n : Int) (o : Bool) (p left : Int) (r : Res (List Itm)) : Prop :=
  if o = true then OpenR xs d [] p left r else if (xs.length : Int) - p < n then r = .err 8 else ManyR xs d n.toNat [] p left r
theorem list_ok {xs : List Int} {d : Nat} {n : Int} {o : Bool} {p left p' l' : Int} {l : List Itm} (hd : d ≤ 6) (hl : left ≠ 0) (h : ListR xs d n o p (left - 1) (.ok l p' l')) : ItemR xs d 4 n o p left (.ok (.mk 4 0 [] l) p' l') := by
  unfold ListR at h
  cases o
  · simp only [Bool.false_eq_true, if_false] at h
    by_cases hn : (xs.length : Int) - p < n
    · rw [if_pos hn] at h
      cases h
    · rw [if_neg hn] at h
      exact .many hd hl hn h
  · simp only [if_true] at h
    exact .open_ hd hl h
theorem list_err {xs : List Int} {d : Nat} {n : Int} {o : Bool} {p left e : Int} (hd : d ≤ 6) (hl : left ≠ 0) (h : ListR xs d n o p (left - 1) (.err e)) : ItemR xs d 4 n o p left (.err e) := by
  unfold ListR at h
  cases o
  · simp only [Bool.false_eq_true, if_false] at h
    by_cases hn : (xs.length : Int) - p < n
    · rw [if_pos hn] at h
      injection h with h
      subst h
      exact .need hd hl hn
    · rw [if_neg hn] at h
      exact .manyE hd hl hn h
  · simp only [if_true] at h
    exact .openE hd hl h
theorem list_any (g : Nat) (A : Option Addr) (c : Nat) (xs : List Int) (d : Nat) (hd : d ≤ 6) (hI : ItemOk g A c xs (d + 1)) (p left m n : Int) (o : Bool) (w : World) (hR : Rdr w g A c xs p left) (hS : Src w g A c xs) (h0 : 0 ≤ p) (h1 : p ≤ xs.length) (hn0 : 0 ≤ n) (hl0 : 0 ≤ left) (hl1 : left ≤ 256) :
    Calls Tryd.prog 110 #[.pointer (some ⟨g, 0, none⟩), .agg #[.int .i64 m, .int .u64 n, .bool o], .int .i64 d] w fun e w' => ∃ r, ListR xs d n o p left r ∧ LOut w g A c xs p left e w' r := by
  cases o
  · by_cases hn : (xs.length : Int) - p < n
    · refine (list_need g A c xs d p left m n w hR hS h0 h1 hn0 hn).mono ?_
      rintro e w' ⟨rfl, hg⟩
      exact ⟨.err 8, by simp [ListR, hn], rfl, hg⟩
    · refine (list_many g A c xs d hd hI p left m n w hR hS h0 h1 hn0 hn hl0 hl1).mono ?_
      rintro e w' ⟨r, h, h'⟩
      exact ⟨r, by simpa only [ListR, Bool.false_eq_true, if_false, if_neg hn] using h, h'⟩
  · refine (list_open g A c xs d hd hI p left m n w hR hS hl0 hl1).mono ?_
    rintro e w' ⟨r, h, h'⟩
    exact ⟨r, by simpa only [ListR, if_true] using h, h'⟩

set_option maxRecDepth 100000 in
set_option maxHeartbeats 1000000 in
theorem item_list (g d : Nat) (A : Option Addr) (c : Nat) (xs : List Int) (p left : Int) (n : Int) (o : Bool) (w : World) (hR : Rdr w g A c xs p left) (hS : Src w g A c xs) (hd : d ≤ 6) (hI : ItemOk g A c xs (d + 1)) (hl0 : 0 ≤ left) (hl1 : left ≤ 256) (hl : left ≠ 0) (hp0 : 0 ≤ p) (hpx : p ≤ xs.length) (hn0 : 0 ≤ n) :
    Calls Tryd.prog 102 #[.pointer (some ⟨g, 0, none⟩), .agg #[.int .i64 4, .int .u64 n, .bool o], .int .i64 d] w fun e w' => ∃ r, ItemR xs d 4 n o p left r ∧ IOut w g A c xs p left e w' r := by
  have hdb : decide ((d : Int) > 6) = false := decide_eq_false (by omega)
  have hdc : decide ((6 : Int) < d) = false := decide_eq_false (by omega)
  have hlb : (left == 0) = false := by simpa using hl
  have hlw : IntKind.i64.wrap (left - 1) = left - 1 := by rw [IntKind.wrap_i64]; omega
  have hlp : 0 < left := by omega
  have hgl := hR.lt
  have HM := Lib.hid (mid_of (m := 4) (n := n) (o := o) hR hS)
  have hr0 := (hR.alloc (.cells #[.int .i64 4, .int .u64 n, .bool o] 133)).alloc (.cells #[.int .i64 0, .int .u64 0, .slice none 0 0, .slice none 0 0] 26)
  obtain ⟨c0, c1, c2⟩ := hr0.cells
  have f2 := hr0.frozen 2
  obtain ⟨k0, k1, k2⟩ := HM.out.hd.three
  have HL := Lib.hid hl
  clear hR hr0 hS hl
  go_enter Tryd.func102, Tryd.ntmps102
  go_wp2_with fail
  generalize ((w.setCell ⟨g, 2, none⟩ (.int .i64 (left - 1))).alloc (.cells #[.int .i64 4, .int .u64 n, .bool o] 133)).alloc (.cells #[.int .i64 0, .int .u64 0, .slice none 0 0, .slice none 0 0] 26) = W1 at *
  refine (list_any g A c xs d hd hI p (left - 1) 4 n o W1 HM.out.rdr HM.out.src hp0 hpx hn0 (by omega) (by omega)).mono ?_
  rintro e w2 ⟨r, hr, ho⟩
  have hs1 := HM.out.size
  cases r with
  | err e2 =>
    obtain ⟨rfl, HG2⟩ := ho
    unfold fault
    go_wp2_with fail
    exact ⟨rfl, _, list_err hd HL.out hr, rfl, Lib.hid (only_trans HM.out.grown HG2.out)⟩
  | ok l p2 l2 =>
    obtain ⟨A2, c2', rfl, hc2, hm2, HV, HR2, HG2, hp2, hp2', hl2, hl2'⟩ := ho
    have HIR := Lib.hid (list_ok hd HL.out hr)
    have hres := CbWrite.Blk.grown HM.out.res HG2.out (by simp; omega)
    obtain ⟨⟨d0, d1, d2, d3⟩, e0, e1, e2, e3⟩ := blk_four hres
    have HG2a := Lib.hid (only_trans HM.out.grown HG2.out)
    have hs2 := HG2.out.size
    clear hr hres c0 c1 c2 f2 k0 k1 k2 HM HG2
    go_wp2_with fail
    refine (clip_items A2 l.length c2' w2 hc2 hm2).mono ?_
    rintro e w3 ⟨rfl, rfl⟩
    go_wp2_with fail
    refine bodyPost_ret (v := .agg #[.int .i64 4, .int .u64 0, .slice none 0 0, .slice A2 l.length l.length]) (by simp [results, Tryd.results102, go_sem, d0, d1, d2, d3, e0, e1, e2, e3]) rfl ⟨_, HIR.out, _, rfl, Lib.hid ?_, Lib.hid (blk_far4 HR2.out (by omega) _ _ _ _), Lib.hid (grown4 HG2a.out (by omega) _ _ _ _), hp2, hp2', by omega, by omega⟩
    exact ItemV.mk (by omega) (by omega) (by intro x hx; cases hx) (Nat.le_refl _) (by simp) .nil (Nat.le_refl _) (by omega) ((HV.out.set4 (.inl (by omega)) _ _ _ _).more (by omega) (by simp [World.setCell]))
end Go.Proofs.YthknkdphofjmhaaDoor.CbItem
/- The contract of the reader's item where it has bytes; and of item as a whole. -/
namespace Go.Proofs.YthknkdphofjmhaaDoor.CbBody
open Go.RowKit Wd Cb CbCopy CbRight CbWrite CbHead CbPiece CbBytes U8V CbList CbOpen CbMany CbItem
attribute [local go_sem ↓] Go.wp_at_zero Go.wp_at_succ

theorem body_left {xs : List Int} {m n p left p' l' : Int} {o : Bool} {b : List Int} (hr : BodyR xs m n o p left (.ok b p' l')) : l' = left := by
  unfold BodyR at hr
  cases o
  · simp only [Bool.false_eq_true, if_false] at hr
    unfold piece at hr
    split at hr
    · cases hr
    · split at hr
      · cases hr
      · injection hr with _ _ h; exact h.symm
  · simp only [if_true] at hr
    exact chunks_left hr rfl

set_option maxRecDepth 100000 in
set_option maxHeartbeats 1000000 in
theorem item_body (g d : Nat) (A : Option Addr) (c : Nat) (xs : List Int) (p left : Int) (m n : Int) (o : Bool) (w : World) (hR : Rdr w g A c xs p left) (hS : Src w g A c xs) (hm : m = 2 ∨ m = 3) (hd : d ≤ 6) (hl0 : 0 ≤ left) (hl1 : left ≤ 256) (hl : left ≠ 0) (hp0 : 0 ≤ p) (hpx : p ≤ xs.length) (hn0 : 0 ≤ n) :
    Calls Tryd.prog 102 #[.pointer (some ⟨g, 0, none⟩), .agg #[.int .i64 m, .int .u64 n, .bool o], .int .i64 d] w fun e w' => ∃ r, ItemR xs d m n o p left r ∧ IOut w g A c xs p left e w' r := by
  have hdb : decide ((d : Int) > 6) = false := decide_eq_false (by omega)
  have hdc : decide ((6 : Int) < d) = false := decide_eq_false (by omega)
  have hlb : (left == 0) = false := by simpa using hl
  have hlw : IntKind.i64.wrap (left - 1) = left - 1 := by rw [IntKind.wrap_i64]; omega
  have hlp : 0 < left := by omega
  have hgl := hR.lt
  have HM := Lib.hid (mid_of (m := m) (n := n) (o := o) hR hS)
  have hr0 := (hR.alloc (.cells #[.int .i64 m, .int .u64 n, .bool o] 133)).alloc (.cells #[.int .i64 0, .int .u64 0, .slice none 0 0, .slice none 0 0] 26)
  obtain ⟨c0, c1, c2⟩ := hr0.cells
  have f2 := hr0.frozen 2
  obtain ⟨k0, k1, k2⟩ := HM.out.hd.three
  have HIE : Hid (∀ k, BodyR xs m n o p (left - 1) (.err k) → ItemR xs d m n o p left (.err k)) := Lib.hid (fun k h => .bodyE hm hd hl h)
  have HIK : Hid (∀ b p' l', BodyR xs m n o p (left - 1) (.ok b p' l') → ItemR xs d m n o p left (.ok (.mk m 0 b []) p' l')) := Lib.hid (fun b p' l' h => .body hm hd hl h)
  clear hR hr0 hS hl
  rcases hm with rfl | rfl
  all_goals go_enter Tryd.func102, Tryd.ntmps102
  all_goals go_wp2_with fail
  · generalize ((w.setCell ⟨g, 2, none⟩ (.int .i64 (left - 1))).alloc (.cells #[.int .i64 2, .int .u64 n, .bool o] 133)).alloc (.cells #[.int .i64 0, .int .u64 0, .slice none 0 0, .slice none 0 0] 26) = W1 at *
    have C1 := Lib.hid (bytes_any g A c xs p (left - 1) 2 n o W1.drew HM.out.rdr (HM.out.src.below ⟨rfl, rfl, rfl, Nat.le_refl _, fun _ _ => rfl⟩) hp0 hpx hn0)
    have HG1 := Lib.hid (only_drew HM.out.grown)
    have HK1 := Lib.hid HM.out.hd.drew
    have HZ1 := Lib.hid HM.out.res.drew
    have hs1 : w.heap.size + 2 = W1.drew.heap.size := HM.out.size
    have hne1 : some g ≠ some w.heap.size := by simp; omega
    have hne2 : some g ≠ some (w.heap.size + 1) := by simp; omega
    have HTH := Lib.hid (fun (W : World) (h : Blk W w.heap.size 133 #[.int .i64 2, .int .u64 n, .bool o]) => Blk.three h)
    have HFR := Lib.hid (fun (W : World) (h : Blk W (w.heap.size + 1) 26 #[.int .i64 0, .int .u64 0, .slice none 0 0, .slice none 0 0]) => blk_four h)
    clear k0 k1 k2 c0 c1 c2 f2
    obtain ⟨k0, k1, k2⟩ := HTH.out _ HK1.out
    go_region_with (first | (go_at_call 111; refine C1.out.mono ?_; rintro e w2 ⟨r, hr, ho⟩; rcases r with ⟨b, p2, l2⟩ | ⟨k⟩; rotate_left; (focus (obtain ⟨rfl, HG2⟩ := ho; unfold fault; go_wp2_with fail; exact ⟨rfl, _, HIE.out k hr, rfl, Lib.hid (only_trans HG1.out HG2.out)⟩)); obtain ⟨A2, cc2, rfl, hc2, hm2, HB2, HV2, HR2, HG2, hp2, hp2'⟩ := ho; have HIR := Lib.hid (HIK.out _ _ _ hr); have HLL := Lib.hid (body_left hr); have HK2 := Lib.hid (CbWrite.Blk.grown HK1.out HG2.out hne1); have HZ2 := Lib.hid (CbWrite.Blk.grown HZ1.out HG2.out hne2); have HG2a := Lib.hid (only_trans HG1.out HG2.out); have hs2 := HG2.out.size; obtain ⟨⟨d0, d1, d2, d3⟩, e0, e1, e2, e3⟩ := HFR.out _ HZ2.out; obtain ⟨q0, q1, q2⟩ := HTH.out _ HK2.out; clear hr HG2) | (go_at_call 55; refine (clip_bytes A2 b.length cc2 w2 hc2 hm2).mono ?_; rintro e w3 ⟨rfl, rfl⟩))
    all_goals go_wp2_with fail
    all_goals (refine bodyPost_ret (v := .agg #[.int .i64 2, .int .u64 0, .slice A2 b.length b.length, .slice none 0 0]) (by simp [results, Tryd.results102, go_sem, d0, d1, d2, d3, e0, e1, e2, e3]) rfl ⟨_, HIR.out, _, rfl, Lib.hid ?_, Lib.hid (blk_far4 HR2.out (by omega) _ _ _ _), Lib.hid (grown4 HG2a.out (by omega) _ _ _ _), hp2, hp2', by rw [HLL.out]; omega, by rw [HLL.out]; omega⟩)
    all_goals exact ItemV.mk (l := []) (by omega) (by omega) HB2.out (Nat.le_refl _) (by omega) ((HV2.out.set4 (.inl (by omega)) _ _ _ _).more (by omega) (by simp [World.setCell])) (Nat.le_refl _) (by simp) .nil
  · generalize ((w.setCell ⟨g, 2, none⟩ (.int .i64 (left - 1))).alloc (.cells #[.int .i64 3, .int .u64 n, .bool o] 133)).alloc (.cells #[.int .i64 0, .int .u64 0, .slice none 0 0, .slice none 0 0] 26) = W1 at *
    have C1 := Lib.hid (bytes_any g A c xs p (left - 1) 3 n o W1.drew HM.out.rdr (HM.out.src.below ⟨rfl, rfl, rfl, Nat.le_refl _, fun _ _ => rfl⟩) hp0 hpx hn0)
    have HG1 := Lib.hid (only_drew HM.out.grown)
    have HK1 := Lib.hid HM.out.hd.drew
    have HZ1 := Lib.hid HM.out.res.drew
    have hs1 : w.heap.size + 2 = W1.drew.heap.size := HM.out.size
    have hne1 : some g ≠ some w.heap.size := by simp; omega
    have hne2 : some g ≠ some (w.heap.size + 1) := by simp; omega
    have HTH := Lib.hid (fun (W : World) (h : Blk W w.heap.size 133 #[.int .i64 3, .int .u64 n, .bool o]) => Blk.three h)
    have HFR := Lib.hid (fun (W : World) (h : Blk W (w.heap.size + 1) 26 #[.int .i64 0, .int .u64 0, .slice none 0 0, .slice none 0 0]) => blk_four h)
    clear k0 k1 k2 c0 c1 c2 f2
    obtain ⟨k0, k1, k2⟩ := HTH.out _ HK1.out
    go_region_with (first | (go_at_call 111; refine C1.out.mono ?_; rintro e w2 ⟨r, hr, ho⟩; rcases r with ⟨b, p2, l2⟩ | ⟨k⟩; rotate_left; (focus (obtain ⟨rfl, HG2⟩ := ho; unfold fault; go_wp2_with fail; exact ⟨rfl, _, HIE.out k hr, rfl, Lib.hid (only_trans HG1.out HG2.out)⟩)); obtain ⟨A2, cc2, rfl, hc2, hm2, HB2, HV2, HR2, HG2, hp2, hp2'⟩ := ho; have HIR := Lib.hid (HIK.out _ _ _ hr); have HLL := Lib.hid (body_left hr); have HK2 := Lib.hid (CbWrite.Blk.grown HK1.out HG2.out hne1); have HZ2 := Lib.hid (CbWrite.Blk.grown HZ1.out HG2.out hne2); have HG2a := Lib.hid (only_trans HG1.out HG2.out); have hs2 := HG2.out.size; obtain ⟨⟨d0, d1, d2, d3⟩, e0, e1, e2, e3⟩ := HFR.out _ HZ2.out; obtain ⟨q0, q1, q2⟩ := HTH.out _ HK2.out; clear hr HG2) | (go_at_call 55; refine (clip_bytes A2 b.length cc2 w2 hc2 hm2).mono ?_; rintro e w3 ⟨rfl, rfl⟩))
    all_goals go_wp2_with fail
    all_goals (refine bodyPost_ret (v := .agg #[.int .i64 3, .int .u64 0, .slice A2 b.length b.length, .slice none 0 0]) (by simp [results, Tryd.results102, go_sem, d0, d1, d2, d3, e0, e1, e2, e3]) rfl ⟨_, HIR.out, _, rfl, Lib.hid ?_, Lib.hid (blk_far4 HR2.out (by omega) _ _ _ _), Lib.hid (grown4 HG2a.out (by omega) _ _ _ _), hp2, hp2', by rw [HLL.out]; omega, by rw [HLL.out]; omega⟩)
    all_goals exact ItemV.mk (l := []) (by omega) (by omega) HB2.out (Nat.le_refl _) (by omega) ((HV2.out.set4 (.inl (by omega)) _ _ _ _).more (by omega) (by simp [World.setCell])) (Nat.le_refl _) (by simp) .nil

/-- Item at every depth. -/
theorem item_any (g : Nat) (A : Option Addr) (c : Nat) (xs : List Int) (N : Nat) : ∀ d : Nat, d ≤ 7 → 7 - d ≤ N → ItemOk g A c xs d := by
  induction N with
  | zero =>
    intro d hd hN m n o p left w hR hS hp0 hpx hn0 hn1 hl0 hl1
    obtain rfl : d = 7 := by omega
    by_cases hm : mayBe m
    · refine (item_deep g 7 m n o w hm (by omega) (by omega)).mono ?_
      rintro e w' ⟨rfl, hb⟩
      exact ⟨_, .deep hm (by omega), rfl, Lib.hid (only_below hb)⟩
    · refine (item_form g 7 m n o w hm).mono ?_
      rintro e w' ⟨rfl, hb⟩
      exact ⟨_, .form hm, rfl, Lib.hid (only_below hb)⟩
  | succ N ih =>
    intro d hd hN m n o p left w hR hS hp0 hpx hn0 hn1 hl0 hl1
    by_cases hm : mayBe m
    · by_cases hd6 : 6 < d
      · refine (item_deep g d m n o w hm hd6 hd).mono ?_
        rintro e w' ⟨rfl, hb⟩
        exact ⟨_, .deep hm hd6, rfl, Lib.hid (only_below hb)⟩
      · by_cases hl : left = 0
        · subst hl
          refine (item_long g d A c xs p m n o w hR hm (by omega)).mono ?_
          rintro e w' ⟨rfl, hb⟩
          exact ⟨_, .long hm (by omega), rfl, Lib.hid (only_below hb)⟩
        · rcases hm with rfl | rfl | rfl | rfl
          · exact item_num g d A c xs p left n o w hR hS (by omega) hl0 hl1 hl hpx hn0 hn1
          · exact item_body g d A c xs p left 2 n o w hR hS (.inl rfl) (by omega) hl0 hl1 hl hp0 hpx hn0
          · exact item_body g d A c xs p left 3 n o w hR hS (.inr rfl) (by omega) hl0 hl1 hl hp0 hpx hn0
          · exact item_list g d A c xs p left n o w hR hS (by omega) (ih (d + 1) (by omega) (by omega)) hl0 hl1 hl hp0 hpx hn0
    · refine (item_form g d m n o w hm).mono ?_
      rintro e w' ⟨rfl, hb⟩
      exact ⟨_, .form hm, rfl, Lib.hid (only_below hb)⟩
end Go.Proofs.YthknkdphofjmhaaDoor.CbBody
/- The contract of cbor.Read. -/
namespace Go.Proofs.YthknkdphofjmhaaDoor.CbRead
open Go.RowKit Wd Cb CbCopy CbRight CbWrite CbHead CbPiece CbBytes U8V CbList CbOpen CbMany CbItem CbBody
attribute [local go_sem ↓] Go.wp_at_zero Go.wp_at_succ

theorem assert_yes (v : Value) (w : World) : Sem.run Tryd.prog (Instr.typeAssert (.iface 29 v) 20 29 true) w = .ok (.tuple #[v, .bool true]) w := by kernel_rfl
theorem assert_nil (w : World) : Sem.run Tryd.prog (Instr.typeAssert .nilIface 20 29 true) w = .ok (.tuple #[.int .i64 0, .bool false]) w := by kernel_rfl

set_option maxRecDepth 10000 in
theorem catch_fault (p : Addr) (x k : Int) (w : World) (hc : w.cell? p = some (.int .i64 x)) (hz : w.frozen? p = false) :
    CallsD Tryd.prog 101 #[.pointer (some p)] (.panicking [{ v := .iface 29 (.int .i64 k), recovered := false }]) w fun e u' w' =>
      e = .returned (.tuple #[]) ∧ u' = .panicking [{ v := .iface 29 (.int .i64 k), recovered := true }] ∧ w' = w.setCell p (.int .i64 k) := by
  refine callsD_of_wpS Tryd.func101 rfl fun c₀ cs hu => ?_
  apply wpS_region
  simp [wpOpsS, go_sem, recoverD, hu, Tryd.ntmps101, Exit.thenS, assert_yes, hc, hz, bodyPostS, results, Tryd.results101]
set_option maxRecDepth 10000 in
theorem catch_idle (p : Addr) (x : Int) (w : World) (hc : w.cell? p = some (.int .i64 x)) (hz : w.frozen? p = false) :
    CallsD Tryd.prog 101 #[.pointer (some p)] .returning w fun e u' w' => e = .returned (.tuple #[]) ∧ u' = .returning ∧ w' = w.setCell p (.int .i64 0) := by
  refine callsD_of_wpS Tryd.func101 rfl fun c₀ cs hu => ?_
  apply wpS_region
  simp [wpOpsS, go_sem, recoverD, hu, Tryd.ntmps101, Exit.thenS, assert_nil, hc, hz, bodyPostS, results, Tryd.results101]
  cases c₀
  simp_all

theorem blk_set1 {w : World} {k : Nat} {t : TypeId} {x : Value} (h : Blk w k t #[x]) (a : Value) : Blk (w.setCell ⟨k, 0, none⟩ a) k t #[a] := by
  simpa using h.set_ 0 a
/-- What is behind the return: the answer's four cells and the error are written once more. -/
theorem after5 {W : World} {b : Nat} {t t' : TypeId} {x0 y0 z0 u0 v0 : Value} (hx : Blk W b t #[x0, y0, z0, u0]) (he : Blk W (b + 1) t' #[v0]) (x y z u v : Value) :
    Hid (Blk ((((((W.setCell ⟨b, 0, none⟩ x).setCell ⟨b, 1, none⟩ y).setCell ⟨b, 2, none⟩ z).setCell ⟨b, 3, none⟩ u).setCell ⟨b + 1, 0, none⟩ v).drew) b t #[x, y, z, u]) ∧
    Hid (Blk ((((((W.setCell ⟨b, 0, none⟩ x).setCell ⟨b, 1, none⟩ y).setCell ⟨b, 2, none⟩ z).setCell ⟨b, 3, none⟩ u).setCell ⟨b + 1, 0, none⟩ v).drew) (b + 1) t' #[v]) ∧
    (∀ w : World, Below b w W → Below b w ((((((W.setCell ⟨b, 0, none⟩ x).setCell ⟨b, 1, none⟩ y).setCell ⟨b, 2, none⟩ z).setCell ⟨b, 3, none⟩ u).setCell ⟨b + 1, 0, none⟩ v).drew)) ∧
    (∀ q : Addr, b + 1 < q.block → ((((((W.setCell ⟨b, 0, none⟩ x).setCell ⟨b, 1, none⟩ y).setCell ⟨b, 2, none⟩ z).setCell ⟨b, 3, none⟩ u).setCell ⟨b + 1, 0, none⟩ v).drew).cell? q = W.cell? q) ∧
    ((((((W.setCell ⟨b, 0, none⟩ x).setCell ⟨b, 1, none⟩ y).setCell ⟨b, 2, none⟩ z).setCell ⟨b, 3, none⟩ u).setCell ⟨b + 1, 0, none⟩ v).drew).heap.size = W.heap.size := by
  have h4 := blk_set4 hx x y z u
  have e4 := blk_far4 he (Nat.succ_ne_self b) x y z u
  have b4 : ∀ w : World, Below b w W → Below b w ((((W.setCell ⟨b, 0, none⟩ x).setCell ⟨b, 1, none⟩ y).setCell ⟨b, 2, none⟩ z).setCell ⟨b, 3, none⟩ u) := fun w h => below_set4 h (Nat.le_refl _) x y z u
  have c4 : ∀ q : Addr, b + 1 < q.block → ((((W.setCell ⟨b, 0, none⟩ x).setCell ⟨b, 1, none⟩ y).setCell ⟨b, 2, none⟩ z).setCell ⟨b, 3, none⟩ u).cell? q = W.cell? q := fun q hq => by
    rw [World.cell?_setCell_other _ ⟨b, 3, none⟩ q u (fun e => by subst e; exact absurd (show b + 1 < b from hq) (by omega)), World.cell?_setCell_other _ ⟨b, 2, none⟩ q z (fun e => by subst e; exact absurd (show b + 1 < b from hq) (by omega)), World.cell?_setCell_other _ ⟨b, 1, none⟩ q y (fun e => by subst e; exact absurd (show b + 1 < b from hq) (by omega)), World.cell?_setCell_other _ ⟨b, 0, none⟩ q x (fun e => by subst e; exact absurd (show b + 1 < b from hq) (by omega))]
  have s4 : ((((W.setCell ⟨b, 0, none⟩ x).setCell ⟨b, 1, none⟩ y).setCell ⟨b, 2, none⟩ z).setCell ⟨b, 3, none⟩ u).heap.size = W.heap.size := by simp [World.setCell]
  generalize (((W.setCell ⟨b, 0, none⟩ x).setCell ⟨b, 1, none⟩ y).setCell ⟨b, 2, none⟩ z).setCell ⟨b, 3, none⟩ u = V at *
  refine ⟨Lib.hid (Wd.Blk.far h4 (p := ⟨b + 1, 0, none⟩) (by simp) v).drew, Lib.hid (blk_set1 e4 v).drew, fun w h => ((b4 w h).setCell (p := ⟨b + 1, 0, none⟩) (by simp) v).drew, fun q hq => ?_, ?_⟩
  · exact (World.cell?_setCell_other V ⟨b + 1, 0, none⟩ q v (fun e => by subst e; simp at hq)).trans (c4 q hq)
  · rw [← s4]
    simp [World.setCell, World.drew]

/-- What Read answers, and what it leaves. -/
def ROut (w : World) (e : Ending) (w' : World) : Res Itm → Prop
  | .err k => e = .returned (.tuple #[.agg #[.int .i64 0, .int .u64 0, .slice none 0 0, .slice none 0 0], .int .i64 0, .int .i64 k]) ∧ Hid (Below w.heap.size w w')
  | .ok x p' _ => ∃ v, e = .returned (.tuple #[v, .int .i64 p', .int .i64 0]) ∧ Hid (ItemV w' w.heap.size w'.heap.size x v) ∧ Hid (Below w.heap.size w w')

/-- Ahead of the reading: the three boxes. -/
structure Boxes (w W : World) (A : Option Addr) (c : Nat) (xs : List Int) (p : Int) : Prop where
  res : Blk W w.heap.size 26 #[.int .i64 0, .int .u64 0, .slice none 0 0, .slice none 0 0]
  err : Blk W (w.heap.size + 1) 29 #[.int .i64 0]
  rdr : Rdr W (w.heap.size + 1 + 1) A c xs p 256
  src : Src W (w.heap.size + 1 + 1) A c xs
  below : Below w.heap.size w W
  size : w.heap.size + 3 = W.heap.size
theorem boxes_of {w : World} {A : Option Addr} {B c : Nat} {xs : List Int} {p : Int} (hs : Lst w B A (u8s xs)) (hB : B ≤ w.heap.size) (hx : St.bts xs) (hc : xs.length ≤ c) (hm : c ≤ maxLen) (hl : xs.length ≤ 100000000000) (hT : Tabs w) :
    Boxes w (((w.alloc (.cells #[.int .i64 0, .int .u64 0, .slice none 0 0, .slice none 0 0] 26)).alloc (.cells #[.int .i64 0] 29)).alloc (.cells #[.slice A xs.length c, .int .i64 p, .int .i64 256] 154)) A c xs p := by
  have z1 : (w.alloc (.cells #[.int .i64 0, .int .u64 0, .slice none 0 0, .slice none 0 0] 26)).heap.size = w.heap.size + 1 := World.size_alloc _ _
  have z2 : ((w.alloc (.cells #[.int .i64 0, .int .u64 0, .slice none 0 0, .slice none 0 0] 26)).alloc (.cells #[.int .i64 0] 29)).heap.size = w.heap.size + 1 + 1 := by rw [World.size_alloc, z1]
  have hb := (((Below.refl w.heap.size w).alloc (Nat.le_refl _) (.cells #[.int .i64 0, .int .u64 0, .slice none 0 0, .slice none 0 0] 26)).alloc (by omega) (.cells #[.int .i64 0] 29)).alloc (by omega) (.cells #[.slice A xs.length c, .int .i64 p, .int .i64 256] 154)
  refine ⟨((Blk.new w _ _).alloc _).alloc _, ?_, ?_, ⟨(hs.below' hb hB).more (by omega), hx, hc, hm, hl, hT.below hb (Nat.le_refl _), by have := hT.2.1; omega, by have := hT.2.2; omega⟩, hb, by rw [World.size_alloc, z2]⟩
  · rw [← z1]
    exact (Blk.new _ _ _).alloc _
  · rw [← z2]
    exact Blk.new _ _ _

set_option maxHeartbeats 1000000 in
theorem read_any (A : Option Addr) (B c : Nat) (xs : List Int) (p : Int) (w : World) (hs : Lst w B A (u8s xs)) (hB : B ≤ w.heap.size) (hx : St.bts xs) (hc : xs.length ≤ c) (hm : c ≤ maxLen) (hl : xs.length ≤ 100000000000) (hT : Tabs w) :
    Calls Tryd.prog 90 #[.slice A xs.length c, .int .i64 p] w fun e w' => ∃ r, ReadR xs p r ∧ ROut w e w' r := by
  have hmf : ∀ (fn : Fn) (first cap : Array Value) (w : World), (Instr.makeFunc fn first cap).run Tryd.prog w = .ok (.func fn first cap) w := fun _ _ _ _ => rfl
  have HX := Lib.hid (boxes_of (p := p) hs hB hx hc hm hl hT)
  clear hs hT
  go_enter_defers Tryd.func90, Tryd.ntmps90
  go_wp2_with fail
  generalize ((w.alloc (.cells #[.int .i64 0, .int .u64 0, .slice none 0 0, .slice none 0 0] 26)).alloc (.cells #[.int .i64 0] 29)).alloc (.cells #[.slice A xs.length c, .int .i64 p, .int .i64 256] 154) = W at *
  have hs0 := HX.out.size
  generalize hrd : HeadP.read xs p = rd
  obtain ⟨m1, n1, o1, j1, e1⟩ := rd
  by_cases he1 : e1 = 0
  · subst he1
    have hrb := HeadP.read_ok xs p hx m1 n1 o1 j1 hrd
    refine (head_ok _ A c xs p 256 m1 n1 j1 o1 W HX.out.rdr HX.out.src.lst hx hc hm hrd).mono ?_
    have HRD := Lib.hid hrd
    clear hrd
    rintro e w1 ⟨rfl, HG1, HR1⟩
    have HS1 := Lib.hid (HX.out.src.only (by omega) HG1.out)
    have hs1 := HG1.out.size
    go_wp2_with fail
    refine (item_any _ A c xs 7 1 (by omega) (by omega) m1 n1 o1 j1 256 w1 HR1.out HS1.out (by omega) (by omega) (by omega) (by omega) (by omega) (by omega)).mono ?_
    rintro e w2 ⟨r, hr, ho⟩
    cases r with
    | err k =>
      obtain ⟨rfl, HG2⟩ := ho
      have HG := Lib.hid (only_trans HG1.out HG2.out)
      have HC : Hid (ReadR xs p (.err k)) := Lib.hid (.item HRD.out hr)
      clear hr HG1 HG2 HR1 HS1
      have hb := CbWrite.Blk.grown HX.out.err HG.out (by simp)
      have hx0 := CbWrite.Blk.grown HX.out.res HG.out (by simp; omega)
      have HB2 := Lib.hid (HX.out.below.trans (((Two.of_only HG.out none).keep (by omega) (fun _ e => by cases e)).mono (by omega)))
      unfold fault
      go_wp2_with fail
      refine leaves_cons (f := 101) (args := #[.pointer (some ⟨w.heap.size + 1, 0, none⟩)]) (by simp) (by simp [go_sem]) ?_
      refine (catch_fault ⟨w.heap.size + 1, 0, none⟩ 0 k w2 (by simpa using hb.cell 0) (hb.frozen 0)).mono ?_
      rintro e u' w3 ⟨rfl, rfl, rfl⟩
      have hb3 := hb.set_ 0 (.int .i64 k)
      have hx3 := Wd.Blk.far hx0 (p := ⟨w.heap.size + 1, 0, none⟩) (by simp) (.int .i64 k)
      have HB3 := Lib.hid (HB2.out.setCell (p := ⟨w.heap.size + 1, 0, none⟩) (by simp) (.int .i64 k))
      obtain ⟨⟨d0, d1, d2, d3⟩, -⟩ := blk_four hx3
      have q0 : (w2.setCell ⟨w.heap.size + 1, 0, none⟩ (.int .i64 k)).cell? ⟨w.heap.size + 1, 0, none⟩ = some (.int .i64 k) := by simpa using hb3.cell 0
      clear hb hx0 hb3 hx3 HB2
      generalize w2.setCell ⟨w.heap.size + 1, 0, none⟩ (.int .i64 k) = W3 at *
      simp [Leaves, settle, results, Tryd.results90, go_sem, d0, d1, d2, d3, q0]
      exact ⟨_, HC.out, rfl, HB3⟩
    | ok x p2 l2 =>
      obtain ⟨v, rfl, HV, HR2, HG2, hp2, hp2', hl2, hl2'⟩ := ho
      have HC : Hid (ReadR xs p (.ok x p2 l2)) := Lib.hid (.item HRD.out hr)
      have HG := Lib.hid (only_trans HG1.out HG2.out)
      have hs2 := HG2.out.size
      clear hr HG1 HG2 HR1 HS1
      have HE := Lib.hid (CbWrite.Blk.grown HX.out.err HG.out (by simp))
      have HX0 := Lib.hid (CbWrite.Blk.grown HX.out.res HG.out (by simp; omega))
      have HB2 := Lib.hid (HX.out.below.trans (((Two.of_only HG.out none).keep (by omega) (fun _ e => by cases e)).mono (by omega)))
      obtain ⟨cs, rfl, hrep⟩ := HV.out
      obtain ⟨A1, c1, A2, c2, rfl, _⟩ := hrep.open_
      have HREP := Lib.hid hrep
      obtain ⟨⟨d0, d1, d2, d3⟩, f0, f1, f2, f3⟩ := blk_four HX0.out
      clear hrep HV HX HG
      go_upto_region 4 with (fail)
      have HX3 := Lib.hid (blk_set4 HX0.out (.int .i64 x.kind) (.int .u64 x.num) (.slice A1 x.bs.length c1) (.slice A2 x.sub.length c2))
      have HE3 := Lib.hid (blk_far4 (k := w.heap.size) HE.out (by omega) (.int .i64 x.kind) (.int .u64 x.num) (.slice A1 x.bs.length c1) (.slice A2 x.sub.length c2))
      have HR3 := Lib.hid (blk_far4 (k := w.heap.size) HR2.out (by omega) (.int .i64 x.kind) (.int .u64 x.num) (.slice A1 x.bs.length c1) (.slice A2 x.sub.length c2))
      have HV3 : Hid (Rep ((((w2.setCell ⟨w.heap.size, 0, none⟩ (.int .i64 x.kind)).setCell ⟨w.heap.size, 1, none⟩ (.int .u64 x.num)).setCell ⟨w.heap.size, 2, none⟩ (.slice A1 x.bs.length c1)).setCell ⟨w.heap.size, 3, none⟩ (.slice A2 x.sub.length c2)) w1.heap.size w2.heap.size x [.int .i64 x.kind, .int .u64 x.num, .slice A1 x.bs.length c1, .slice A2 x.sub.length c2]) := Lib.hid (HREP.out.keep fun q h1 h2 => by
        have := (only_set4 (World.grownBy.refl w2 (some w.heap.size)) (.int .i64 x.kind) (.int .u64 x.num) (.slice A1 x.bs.length c1) (.slice A2 x.sub.length c2)).block q.block h2 (fun e => by injection e; omega)
        exact World.cell?_of_block this)
      have HB3 := Lib.hid (below_set4 HB2.out (Nat.le_refl _) (.int .i64 x.kind) (.int .u64 x.num) (.slice A1 x.bs.length c1) (.slice A2 x.sub.length c2))
      have hs3 : ((((w2.setCell ⟨w.heap.size, 0, none⟩ (.int .i64 x.kind)).setCell ⟨w.heap.size, 1, none⟩ (.int .u64 x.num)).setCell ⟨w.heap.size, 2, none⟩ (.slice A1 x.bs.length c1)).setCell ⟨w.heap.size, 3, none⟩ (.slice A2 x.sub.length c2)).heap.size = w2.heap.size := by simp [World.setCell]
      clear HX0 HE HR2 HB2 HREP d0 d1 d2 d3 f0 f1 f2 f3
      generalize (((w2.setCell ⟨w.heap.size, 0, none⟩ (.int .i64 x.kind)).setCell ⟨w.heap.size, 1, none⟩ (.int .u64 x.num)).setCell ⟨w.heap.size, 2, none⟩ (.slice A1 x.bs.length c1)).setCell ⟨w.heap.size, 3, none⟩ (.slice A2 x.sub.length c2) = W3 at *
      have HX4 := Lib.hid HX3.out.drew
      have HE4 := Lib.hid HE3.out.drew
      have HR4 : Hid (Rdr W3.drew (w.heap.size + 1 + 1) A c xs p2 l2) := Lib.hid (Blk.drew HR3.out)
      obtain ⟨⟨d0, d1, d2, d3⟩, f0, f1, f2, f3⟩ := blk_four HX4.out
      obtain ⟨r0, r1, r2⟩ := HR4.out.cells
      have g0 : W3.drew.cell? ⟨w.heap.size + 1, 0, none⟩ = some (.int .i64 0) := by simpa using HE4.out.cell 0
      have g1 := HE4.out.frozen 0
      obtain ⟨⟨d0', d1', d2', d3'⟩, f0', f1', f2', f3'⟩ := blk_four HX3.out
      obtain ⟨r0', r1', r2'⟩ := (show Rdr W3 (w.heap.size + 1 + 1) A c xs p2 l2 from HR3.out).cells
      have g0' : W3.cell? ⟨w.heap.size + 1, 0, none⟩ = some (.int .i64 0) := by simpa using HE3.out.cell 0
      have g1' := HE3.out.frozen 0
      go_region
      obtain ⟨HX5, HE5, hb5, hc5, hs5'⟩ := after5 HX3.out HE3.out (.int .i64 x.kind) (.int .u64 x.num) (.slice A1 x.bs.length c1) (.slice A2 x.sub.length c2) (.int .i64 0)
      have HB5 := Lib.hid (hb5 w HB3.out)
      have HC5 := Lib.hid hc5
      have hs5 := hs5'.trans hs3
      clear hb5 hc5 hs5'
      clear HX3 HE3 HR3 HB3 HX4 HE4 HR4 d0 d1 d2 d3 f0 f1 f2 f3 r0 r1 r2 g0 g1 d0' d1' d2' d3' f0' f1' f2' f3' r0' r1' r2' g0' g1' hs3
      generalize (((((W3.setCell ⟨w.heap.size, 0, none⟩ (.int .i64 x.kind)).setCell ⟨w.heap.size, 1, none⟩ (.int .u64 x.num)).setCell ⟨w.heap.size, 2, none⟩ (.slice A1 x.bs.length c1)).setCell ⟨w.heap.size, 3, none⟩ (.slice A2 x.sub.length c2)).setCell ⟨w.heap.size + 1, 0, none⟩ (.int .i64 0)).drew = W5 at *
      have HV5 : Hid (Rep W5 w1.heap.size w2.heap.size x [.int .i64 x.kind, .int .u64 x.num, .slice A1 x.bs.length c1, .slice A2 x.sub.length c2]) := Lib.hid (HV3.out.keep fun q h1 h2 => HC5.out q (by omega))
      clear HV3
      go_wp2_with fail
      refine leaves_cons (f := 101) (args := #[.pointer (some ⟨w.heap.size + 1, 0, none⟩)]) (by simp) (by simp [go_sem]) ?_
      refine (catch_idle ⟨w.heap.size + 1, 0, none⟩ 0 W5 (by simpa using HE5.out.cell 0) (HE5.out.frozen 0)).mono ?_
      rintro e u' w6 ⟨rfl, rfl, rfl⟩
      have hb3 := HE5.out.set_ 0 (.int .i64 0)
      have hx3 := Wd.Blk.far HX5.out (p := ⟨w.heap.size + 1, 0, none⟩) (by simp) (.int .i64 0)
      have HB6 := Lib.hid (HB5.out.setCell (p := ⟨w.heap.size + 1, 0, none⟩) (by simp) (.int .i64 0))
      have HV6 : Hid (Rep (W5.setCell ⟨w.heap.size + 1, 0, none⟩ (.int .i64 0)) w1.heap.size w2.heap.size x [.int .i64 x.kind, .int .u64 x.num, .slice A1 x.bs.length c1, .slice A2 x.sub.length c2]) := Lib.hid (HV5.out.keep fun q h1 h2 => World.cell?_setCell_other _ ⟨w.heap.size + 1, 0, none⟩ q (.int .i64 0) (fun e => by subst e; simp at h1; omega))
      have hs6 : (W5.setCell ⟨w.heap.size + 1, 0, none⟩ (.int .i64 0)).heap.size = w2.heap.size := by rw [← hs5]; simp [World.setCell]
      obtain ⟨⟨d0, d1, d2, d3⟩, -⟩ := blk_four hx3
      have q0 : (W5.setCell ⟨w.heap.size + 1, 0, none⟩ (.int .i64 0)).cell? ⟨w.heap.size + 1, 0, none⟩ = some (.int .i64 0) := by simpa using hb3.cell 0
      clear hb3 hx3 HB5 HV5 HX5 HE5
      generalize W5.setCell ⟨w.heap.size + 1, 0, none⟩ (.int .i64 0) = W6 at *
      simp [Leaves, settle, results, Tryd.results90, go_sem, d0, d1, d2, d3, q0]
      exact ⟨_, HC.out, _, rfl, Lib.hid ⟨_, rfl, HV6.out.more (by omega) (by omega)⟩, HB6⟩
  · refine (head_err _ A c xs p 256 m1 n1 j1 e1 o1 W HX.out.rdr HX.out.src.lst hx hc hm hrd he1).mono ?_
    have HC : Hid (ReadR xs p (.err e1)) := Lib.hid (.bad hrd he1)
    clear hrd he1
    rintro e w2 ⟨rfl, HG⟩
    have hb := CbWrite.Blk.grown HX.out.err HG.out (by simp)
    have hx0 := CbWrite.Blk.grown HX.out.res HG.out (by simp; omega)
    have HB2 := Lib.hid (HX.out.below.trans (((Two.of_only HG.out none).keep (by omega) (fun _ e => by cases e)).mono (by omega)))
    unfold fault
    go_wp2_with fail
    refine leaves_cons (f := 101) (args := #[.pointer (some ⟨w.heap.size + 1, 0, none⟩)]) (by simp) (by simp [go_sem]) ?_
    refine (catch_fault ⟨w.heap.size + 1, 0, none⟩ 0 e1 w2 (by simpa using hb.cell 0) (hb.frozen 0)).mono ?_
    rintro e u' w3 ⟨rfl, rfl, rfl⟩
    have hb3 := hb.set_ 0 (.int .i64 e1)
    have hx3 := Wd.Blk.far hx0 (p := ⟨w.heap.size + 1, 0, none⟩) (by simp) (.int .i64 e1)
    have HB3 := Lib.hid (HB2.out.setCell (p := ⟨w.heap.size + 1, 0, none⟩) (by simp) (.int .i64 e1))
    obtain ⟨⟨d0, d1, d2, d3⟩, -⟩ := blk_four hx3
    have q0 : (w2.setCell ⟨w.heap.size + 1, 0, none⟩ (.int .i64 e1)).cell? ⟨w.heap.size + 1, 0, none⟩ = some (.int .i64 e1) := by simpa using hb3.cell 0
    clear hb hx0 hb3 hx3 HB2
    generalize w2.setCell ⟨w.heap.size + 1, 0, none⟩ (.int .i64 e1) = W3 at *
    simp [Leaves, settle, results, Tryd.results90, go_sem, d0, d1, d2, d3, q0]
    exact ⟨_, HC.out, rfl, HB3⟩
end Go.Proofs.YthknkdphofjmhaaDoor.CbRead
/- The contract of cbor.Shortest. -/
namespace Go.Proofs.YthknkdphofjmhaaDoor.CbShort
open Go.RowKit Wd Cb CbCopy CbRight CbWrite CbHead CbPiece CbBytes U8V CbList CbOpen CbMany CbItem CbBody CbRead CbSame
attribute [local go_sem ↓] Go.wp_at_zero Go.wp_at_succ

mutual
theorem Rep.sane {w : World} {lo hi : Nat} : ∀ {x : Itm} {cs : List Value}, Rep w lo hi x cs → sane x
  | .mk k n b l, cs, h => by
    unfold Rep at h
    obtain ⟨A, c, A', c', vs, h1, h2, h3, h4, h5, h6, h7, h8, h9, h10, h11⟩ := h
    exact ⟨h3, h4, Reps.sane h11⟩
theorem Reps.sane {w : World} {lo hi : Nat} : ∀ {l : List Itm} {vs : List Value}, Reps w lo hi l vs → sanes l
  | [], vs, h => trivial
  | x :: l, vs, h => by
    unfold Reps at h
    obtain ⟨c, r, h1, h2, h3⟩ := h
    exact ⟨Rep.sane h2, Reps.sane h3⟩
end
theorem _root_.Go.Proofs.YthknkdphofjmhaaDoor.Cb.ItemV.sane {w : World} {lo hi : Nat} {x : Itm} {v : Value} (h : ItemV w lo hi x v) : sane x := let ⟨_, _, r⟩ := h; Rep.sane r

mutual
theorem enc_bts : ∀ x : Itm, fine x = true → sane x → (enc x).length ≤ 18446744073709551615 → St.bts (enc x)
  | .mk k n b l, hf, hs, hm => by
    have hlen := enc_len (.mk k n b l)
    obtain ⟨hn, hb, hsl⟩ := hs
    simp only [Itm.kind, Itm.bs, Itm.sub] at hlen
    have h1 := encs_long l
    have h2 := hl_pos k (cn (.mk k n b l)) false
    have hcn : 0 ≤ cn (.mk k n b l) := by
      rcases fine_parts k n b l hf with ⟨rfl, _⟩ | ⟨rfl, _⟩ | ⟨rfl, _⟩ | ⟨rfl, _⟩
      · exact hn.1
      · have e : cn (.mk 2 n b l) = b.length := rfl
        omega
      · have e : cn (.mk 3 n b l) = b.length := rfl
        omega
      · have e : cn (.mk 4 n b l) = l.length := rfl
        omega
    have hright : HeadP.right k (cn (.mk k n b l)) false = true := by
      rcases fine_parts k n b l hf with ⟨rfl, _⟩ | ⟨rfl, _⟩ | ⟨rfl, _⟩ | ⟨rfl, _⟩ <;> simp [HeadP.right]
    have hfl : fines l = true := by
      rw [fine_sub] at hf
      exact (Bool.and_eq_true_iff.1 hf).2
    have hbl := encs_bts l hfl hsl (by omega)
    rw [enc_sub]
    intro y hy
    rcases List.mem_append.1 hy with hy | hy
    · rcases List.mem_append.1 hy with hy | hy
      · exact HeadP.bytes_bound _ _ _ hright hcn y hy
      · exact hb y hy
    · exact hbl y hy
theorem encs_bts : ∀ l : List Itm, fines l = true → sanes l → (encs l).length ≤ 18446744073709551615 → St.bts (encs l)
  | [], _, _, _ => by intro x hx; cases hx
  | x :: l, hf, hs, hm => by
    simp only [fines, Bool.and_eq_true] at hf
    simp only [encs, List.length_append] at hm
    have h1 := enc_bts x hf.1 hs.1 (by omega)
    have h2 := encs_bts l hf.2 hs.2 (by omega)
    intro y hy
    rcases List.mem_append.1 (show y ∈ enc x ++ encs l from hy) with hy | hy
    · exact h1 y hy
    · exact h2 y hy
end
theorem right_fine {x : Itm} (h : right x = true) : fine x = true := by
  unfold right at h
  exact (Bool.and_eq_true_iff.1 h).2

set_option maxHeartbeats 1000000 in
theorem shortest_any (A : Option Addr) (B c : Nat) (xs : List Int) (w : World) (hs : Lst w B A (u8s xs)) (hB : B ≤ w.heap.size) (hx : St.bts xs) (hc : xs.length ≤ c) (hm : c ≤ maxLen) (hl : xs.length ≤ 4294967295) (hT : Tabs w) :
    Calls Tryd.prog 91 #[.slice A xs.length c] w fun e w' => ∃ sh : Bool, e = .returned (.bool sh) ∧ Below w.heap.size w w' ∧ Hid ((∃ x p l, ReadR xs 0 (.ok x p l) ∧ sh = (xs == enc x)) ∨ ((∃ k, ReadR xs 0 (.err k)) ∧ sh = false)) := by
  have HS := Lib.hid hs
  have HT := Lib.hid hT
  clear hs hT
  go_enter Tryd.func91, Tryd.ntmps91
  go_wp2_with fail
  refine (read_any A B c xs 0 w HS.out hB hx hc hm (by omega) HT.out).mono ?_
  rintro e w1 ⟨r, hr, ho⟩
  cases r with
  | err k =>
    obtain ⟨rfl, HB1⟩ := ho
    have HC := Lib.hid hr
    have hk : (k != 0) = true := by simpa using read_err hr
    clear hr
    go_wp2_with fail
    go_ret
    exact ⟨false, rfl, HB1.out.alloc HB1.out.size _, Lib.hid (.inr ⟨⟨k, HC.out⟩, rfl⟩)⟩
  | ok x p l =>
    obtain ⟨v, rfl, HV, HB1⟩ := ho
    have HRD := Lib.hid hr
    obtain ⟨g1, g2, g3, g4, g5, g6⟩ := read_good hx hl hr
    have hel : (enc x).length ≤ 4294967295 := by omega
    have HEB := Lib.hid (enc_bts x (right_fine g1) g2 (by omega))
    have HR := Lib.hid g1
    have hs1 := HB1.out.size
    have hv := HV.out
    obtain ⟨A1, c1, A2, c2, rfl, _⟩ := hv.open_
    have hb1 := (Below.refl w1.heap.size w1).alloc (Nat.le_refl _) (.cells #[.int .i64 x.kind, .int .u64 x.num, .slice A1 x.bs.length c1, .slice A2 x.sub.length c2] 26)
    have hz1 : (w1.alloc (.cells #[.int .i64 x.kind, .int .u64 x.num, .slice A1 x.bs.length c1, .slice A2 x.sub.length c2] 26)).heap.size = w1.heap.size + 1 := World.size_alloc _ _
    have HV1 := Lib.hid ((hv.more (Nat.zero_le _) (Nat.le_refl _)).below hb1)
    have HB1a := Lib.hid (below_next HB1.out hs1 hb1)
    clear hr hv HV hb1 g1 g2 g3 g4 g5 g6
    go_wp2_with fail
    refine (write_yes x _ w1.heap.size _ HV1.out (by omega) (HT.out.below HB1a.out (Nat.le_refl _)) HR.out (by omega)).mono ?_
    rintro e w2 ⟨A3, rfl, HSG, hb2⟩
    have HB2 := Lib.hid (below_next HB1a.out HB1a.out.size hb2)
    clear hb2
    go_wp2_with fail
    refine (equal_any A A3 w2.heap.size c (enc x).length xs (enc x) w2 ((HS.out.below' HB2.out hB).more (by have := HB2.out.size; omega)) HSG.out.lst hx HEB.out).mono ?_
    rintro e w3 ⟨rfl, rfl⟩
    go_wp2_with fail
    go_ret
    exact ⟨_, rfl, HB2.out, Lib.hid (.inl ⟨x, p, l, HRD.out, rfl⟩)⟩
end Go.Proofs.YthknkdphofjmhaaDoor.CbShort
