/- The contract of the reader's list, where it is open: on what item does one deeper. -/
import Derived.Test.YtoieadbifhealaaDoorCbBytes
import Derived.Test.YtoieadbifhealaaDoorCbList
import Derived.Test.YtoieadbifhealaaDoorAppS
namespace Go.Proofs.YtoieadbifhealaaDoor.CbOpen
open Go.RowKit Wd Cb CbCopy CbRight CbWrite CbHead CbPiece CbBytes U8V CbList
attribute [local go_sem ↓] Go.wp_at_zero Go.wp_at_succ

/-- Items whose memory is none of the block r. -/
def Firm (w : World) (lo hi : Nat) (r : Option Nat) (l : List Itm) (vs : List Value) : Prop :=
  ∀ W : World, (∀ p : Addr, lo ≤ p.block → p.block < hi → r ≠ some p.block → W.cell? p = w.cell? p) → Reps W lo hi l vs
theorem Firm.none_ (w : World) (lo hi : Nat) (r : Option Nat) : Firm w lo hi r [] [] := fun _ _ => Reps.none_
theorem Firm.reps {w : World} {lo hi : Nat} {r : Option Nat} {l : List Itm} {vs : List Value} (h : Firm w lo hi r l vs) : Reps w lo hi l vs := h w fun _ _ _ _ => rfl
theorem Firm.keep {w w' : World} {lo hi : Nat} {r : Option Nat} {l : List Itm} {vs : List Value} (h : Firm w lo hi r l vs) (hk : ∀ p : Addr, lo ≤ p.block → p.block < hi → w'.cell? p = w.cell? p) : Firm w' lo hi r l vs :=
  fun W hW => h W fun p h1 h2 h3 => (hW p h1 h2 h3).trans (hk p h1 h2)
theorem Firm.more {w : World} {lo hi hi' : Nat} {r : Option Nat} {l : List Itm} {vs : List Value} (h : Firm w lo hi r l vs) (hh : hi ≤ hi') : Firm w lo hi' r l vs :=
  fun W hW => (h W fun p h1 h2 h3 => hW p h1 (by omega) h3).more (Nat.le_refl _) hh
theorem Firm.snoc {w w5 : World} {lo k : Nat} {r r' : Option Nat} {l : List Itm} {vs cs : List Value} {x : Itm} (F : Firm w lo k r l vs) (hx : Rep w k w.heap.size x cs) (hk : k ≤ w.heap.size) (hlo : lo ≤ k)
    (h5 : w.grownBy w5 r) (hr : ∀ q, r = some q → q < k) (hr' : r' = r ∨ r' = some w.heap.size) : Firm w5 lo w5.heap.size r' (l ++ [x]) (vs ++ cs) := by
  intro W hW
  have hs := h5.size
  have hne : ∀ q : Nat, q < w.heap.size → r ≠ some q → r' ≠ some q := fun q hq hn => by
    rcases hr' with rfl | rfl
    · exact hn
    · intro e; injection e; omega
  refine Reps.append ?_ (Reps.one ?_)
  · refine (F W fun p h1 h2 h3 => ?_).more (Nat.le_refl _) (by omega)
    rw [hW p h1 (by omega) (hne _ (by omega) h3)]
    exact World.cell?_of_block (h5.block p.block (by omega) (fun e => h3 e.symm))
  · refine Rep.more hlo hs (hx.keep fun p h1 h2 => ?_)
    have h3 : r ≠ some p.block := fun e => by have := hr _ e; omega
    rw [hW p (by omega) (by omega) (hne _ h2 h3)]
    exact World.cell?_of_block (h5.block p.block h2 (fun e => h3 e.symm))

/-- What item answers, and what it leaves. -/
def IOut (w : World) (g : Nat) (A : Option Addr) (c : Nat) (xs : List Int) (p left : Int) (e : Ending) (w' : World) : Res Itm → Prop
  | .err k => e = fault k ∧ Hid (w.grownBy w' (some g))
  | .ok x p' l' => ∃ v, e = .returned v ∧ Hid (ItemV w' w.heap.size w'.heap.size x v) ∧ Hid (Rdr w' g A c xs p' l') ∧ Hid (w.grownBy w' (some g)) ∧ p ≤ p' ∧ p' ≤ xs.length ∧ 0 ≤ l' ∧ l' < left
/-- What list answers, and what it leaves. -/
def LOut (w : World) (g : Nat) (A : Option Addr) (c : Nat) (xs : List Int) (p left : Int) (e : Ending) (w' : World) : Res (List Itm) → Prop
  | .err k => e = fault k ∧ Hid (w.grownBy w' (some g))
  | .ok l p' l' => ∃ A' c', e = .returned (.slice A' l.length c') ∧ l.length ≤ c' ∧ c' ≤ maxLen ∧ Hid (ItemsV w' w.heap.size w'.heap.size l A') ∧ Hid (Rdr w' g A c xs p' l') ∧ Hid (w.grownBy w' (some g)) ∧ p ≤ p' ∧ p' ≤ xs.length ∧ 0 ≤ l' ∧ l' + l.length ≤ left
/-- What is asked of item at a depth. -/
def ItemOk (g : Nat) (A : Option Addr) (c : Nat) (xs : List Int) (d : Nat) : Prop := ∀ (m n : Int) (o : Bool) (p left : Int) (w : World), Rdr w g A c xs p left → Src w g A c xs → 0 ≤ p → p ≤ xs.length → 0 ≤ n → n ≤ 18446744073709551615 → 0 ≤ left → left ≤ 256 →
  Calls Tryd.prog 52 #[.pointer (some ⟨g, 0, none⟩), .agg #[.int .i64 m, .int .u64 n, .bool o], .int .i64 d] w fun e w' => ∃ r, ItemR xs d m n o p left r ∧ IOut w g A c xs p left e w' r

theorem firm_ItemsV {w : World} {lo n cap : Nat} {A' : Option Addr} {l : List Itm} {vs : List Value} {e : TypeId} (hO : w.ownsRow lo e 4 (.slice A' n cap) n vs) (hF : Firm w lo w.heap.size (Value.ownBlock (.slice A' n cap)) l vs) : ItemsV w lo w.heap.size l A' := by
  exact ⟨vs, Seg.of_own hO, hF.reps⟩

set_option maxRecDepth 100000 in
set_option maxHeartbeats 2000000 in
theorem list_open (g : Nat) (A : Option Addr) (c : Nat) (xs : List Int) (d : Nat) (hd : d ≤ 6) (hI : ItemOk g A c xs (d + 1)) (p left m n : Int) (w : World) (hR : Rdr w g A c xs p left) (hS : Src w g A c xs) (hl0 : 0 ≤ left) (hl1 : left ≤ 256) :
    Calls Tryd.prog 79 #[.pointer (some ⟨g, 0, none⟩), .agg #[.int .i64 m, .int .u64 n, .bool true], .int .i64 d] w fun e w' => ∃ r, OpenR xs d [] p left r ∧ LOut w g A c xs p left e w' r := by
  obtain ⟨i0, hi0, hz0', hz1', hz2'⟩ := info_parts info_item
  have hgl := hR.lt
  have hSa : Src (w.alloc (.cells #[.int .i64 m, .int .u64 n, .bool true] 90)) g A c xs := hS.below (((Below.refl _ _).alloc (Nat.le_refl _) _).mono (Nat.le_of_lt hgl))
  have HB0 := Lib.hid ((Below.refl w.heap.size w).alloc (Nat.le_refl _) (.cells #[.int .i64 m, .int .u64 n, .bool true] 90))
  have hz : (w.alloc (.cells #[.int .i64 m, .int .u64 n, .bool true] 90)).heap.size = w.heap.size + 1 := World.size_alloc _ _
  have HRa := Lib.hid (hR.alloc (.cells #[.int .i64 m, .int .u64 n, .bool true] 90))
  have HS := Lib.hid hS
  have HSa := Lib.hid hSa
  have HZ := Lib.hid hz
  have HI := Lib.hid hI
  clear hR hS hSa hz hI
  generalize hrd : HeadP.read xs p = rd
  obtain ⟨m1, n1, o1, j1, e1⟩ := rd
  by_cases he1 : e1 = 0
  · subst he1
    have C1 := Lib.hid (head_ok g A c xs p left m1 n1 j1 o1 _ HRa.out HSa.out.lst HSa.out.bts HSa.out.cap HSa.out.max hrd)
    have HRD := Lib.hid hrd
    clear hrd
    go_enter Tryd.func79, Tryd.ntmps79
    go_wp2_with fail
    refine C1.out.mono ?_
    rintro e w1 ⟨rfl, HG1, HR1⟩
    go_wp2_with fail
    have HO1 := Lib.hid (nilRow (w1.alloc (.cells #[.int .i64 m1, .int .u64 n1, .bool o1] 90)) (w.heap.size + 1) 26 4)
    have HP1 := Lib.hid (Blk.new w1 90 #[.int .i64 m1, .int .u64 n1, .bool o1])
    have HR1a := Lib.hid (HR1.out.alloc (.cells #[.int .i64 m1, .int .u64 n1, .bool o1] 90))
    have HG1a := Lib.hid (only_alloc (only_trans (only_below HB0.out) HG1.out) (.cells #[.int .i64 m1, .int .u64 n1, .bool o1] 90))
    have hz1 : (w1.alloc (.cells #[.int .i64 m1, .int .u64 n1, .bool o1] 90)).heap.size = w1.heap.size + 1 := World.size_alloc _ _
    have hz0 : w.heap.size < w1.heap.size := by have := HG1.out.size; have := HZ.out; omega
    have hk1 : w1.heap.size < (w1.alloc (.cells #[.int .i64 m1, .int .u64 n1, .bool o1] 90)).heap.size := by omega
    generalize w1.heap.size = k1 at *
    generalize w1.alloc (.cells #[.int .i64 m1, .int .u64 n1, .bool o1] 90) = W1 at *
    have hrb := HeadP.read_ok xs p HS.out.bts m1 n1 o1 j1 HRD.out
    clear hz1 HR1 HG1 HB0 HRa HSa
    go_loopg [7, 8] (xs.length - j1.toNat) (fun gk v pv wr => ∃ (acc : List Itm) (vs : List Value) (k : Nat) (m2 n2 : Int) (o2 : Bool) (q j2 lf : Int), gk = xs.length - j2.toNat ∧ pv = .pointer (some ⟨k, 0, none⟩) ∧ w.heap.size < k ∧ k < wr.heap.size ∧ p ≤ q ∧ 0 ≤ q ∧ q < j2 ∧ j2 ≤ xs.length ∧ 0 ≤ n2 ∧ n2 ≤ 18446744073709551615 ∧ 0 ≤ lf ∧ lf + acc.length ≤ left ∧
      Hid (HeadP.read xs q = (m2, n2, o2, j2, 0)) ∧ Hid (∀ r, OpenR xs d acc q lf r → OpenR xs d [] p left r) ∧ Hid (∃ vv, vv = v ∧ wr.ownsRow (w.heap.size + 1) 26 4 vv acc.length vs ∧ Firm wr (w.heap.size + 1) wr.heap.size vv.ownBlock acc vs) ∧ Hid (Blk wr k 90 #[.int .i64 m2, .int .u64 n2, .bool o2]) ∧ Hid (Rdr wr g A c xs j2 lf) ∧
      Hid (w.grownBy wr (some g)))
    case atStart => exact ⟨[], [], k1, m1, n1, o1, p, j1, left, rfl, rfl, hz0, hk1, by omega, by omega, by omega, by omega, by omega, by omega, by omega, by simp, HRD, Lib.hid (fun _ h => h), Lib.hid ⟨_, rfl, HO1.out, Firm.none_ _ _ _ _⟩, HP1, HR1a, HG1a⟩
    case round =>
      obtain ⟨acc, vs, k, m2, n2, o2, q, j2, lf, hgk, rfl, hk0, hk1, hpq, hq0, hqj, hjx, hn2, hn2', hlf, hlf', HRD2, HCH, ⟨vv, rfl, hO, hF⟩, HP, HR2, HG2⟩ := hrel
      have HO := Lib.hid hO
      have HF := Lib.hid hF
      clear HO1 HP1 HR1a HG1a hO hF
      have hSr : Src wr g A c xs := HS.out.only hgl HG2.out
      have hszr := HG2.out.size
      obtain ⟨p0c, p1c, p2c⟩ := HP.out.three
      have C2 := Lib.hid (ends_any m2 n2 o2 wr)
      have HSR := Lib.hid hSr
      clear hSr
      go_wp2_with fail
      refine C2.out.mono ?_
      rintro e w2 ⟨rfl, hb2⟩
      have HPb := Lib.hid (HP.out.next hb2)
      have HRb := Lib.hid (HR2.out.below hb2)
      have HGb := Lib.hid (only_trans HG2.out (only_below hb2))
      have HOb := Lib.hid (own_later HO.out hb2)
      have HFb := Lib.hid ((HF.out.keep fun p _ h => hb2.cell h).more hb2.size)
      have HSb := Lib.hid (HSR.out.below (hb2.mono (by omega)))
      have hsz2 := hb2.size
      clear hb2 C2 HP HR2 HG2 HO HF HSR p0c p1c p2c
      obtain ⟨p0c, p1c, p2c⟩ := HPb.out.three
      cases he : ends m2 n2 o2
      · have HE := Lib.hid he
        clear he
        go_wp2_with fail
        have C3 := HI.out m2 n2 o2 j2 lf w2 HRb.out HSb.out (by omega) hjx hn2 hn2' hlf (by omega)
        have ed : ((d + 1 : Nat) : Int) = (d : Int) + 1 := by omega
        rw [ed] at C3
        refine C3.mono ?_
        clear ed C3
        rintro e w3 ⟨r3, hr3, ho3⟩
        cases r3 with
        | err e3 =>
          obtain ⟨rfl, HG3⟩ := ho3
          have HC : Hid (OpenR xs d [] p left (.err e3)) := Lib.hid (HCH.out _ (.cut HRD2.out HE.out hr3))
          clear hr3
          unfold fault
          go_wp2_with fail
          exact ⟨rfl, _, HC.out, rfl, Lib.hid (only_trans HGb.out HG3.out)⟩
        | ok x j3 l3 =>
          obtain ⟨v, rfl, HV, HR3, HG3, hj3, hj3', hl3, hl3'⟩ := ho3
          have HCH3 : Hid (∀ r, OpenR xs d (acc ++ [x]) j3 l3 r → OpenR xs d [] p left r) := Lib.hid (fun r h => HCH.out r (.more HRD2.out HE.out hr3 h))
          obtain ⟨cs, rfl, hrep⟩ := HV.out
          obtain ⟨A1, c1, A2, c2, rfl, _⟩ := hrep.open_
          have HREP := Lib.hid hrep
          clear hr3 hrep HV
          have hob : ∀ r, vv.ownBlock = some r → w.heap.size + 1 ≤ r ∧ r < w2.heap.size := fun r hr => HOb.out.lt r hr
          have hkv : vv.ownBlock ≠ some k := own_blk_ne HOb.out HPb.out (by decide)
          have hsz3 := HG3.out.size
          have hza : (w3.alloc (.cells #[.int .i64 x.kind, .int .u64 x.num, .slice A1 x.bs.length c1, .slice A2 x.sub.length c2] 26)).heap.size = w3.heap.size + 1 := World.size_alloc _ _
          have hba := (Below.refl w3.heap.size w3).alloc (Nat.le_refl _) (.cells #[.int .i64 x.kind, .int .u64 x.num, .slice A1 x.bs.length c1, .slice A2 x.sub.length c2] 26)
          have HSG : Hid (Seg (w3.alloc (.cells #[.int .i64 x.kind, .int .u64 x.num, .slice A1 x.bs.length c1, .slice A2 x.sub.length c2] 26)) 0 (w3.heap.size + 1) (some ⟨w3.heap.size, 0, none⟩) [.int .i64 x.kind, .int .u64 x.num, .slice A1 x.bs.length c1, .slice A2 x.sub.length c2]) :=
            Lib.hid (Seg.of_lst (Lst.lit w3 #[.int .i64 x.kind, .int .u64 x.num, .slice A1 x.bs.length c1, .slice A2 x.sub.length c2] 26))
          have HO3 := Lib.hid (own_later (HOb.out.kept HG3.out (.inr (fun e => by have := hob g e; omega))) hba)
          have HF3 := Lib.hid ((HFb.out.keep (fun q h1 h2 => World.cell?_of_block (HG3.out.block q.block (by omega) (fun e => by injection e; omega)))).keep (fun q _ h2 => hba.cell (by omega)))
          have HX3 := Lib.hid ((HREP.out.below hba).more (Nat.le_refl _) (show w3.heap.size ≤ (w3.alloc (.cells #[.int .i64 x.kind, .int .u64 x.num, .slice A1 x.bs.length c1, .slice A2 x.sub.length c2] 26)).heap.size by omega))
          have HP3 := Lib.hid ((CbWrite.Blk.grown HPb.out HG3.out (by simp; omega)).next hba)
          have HR3a := Lib.hid (HR3.out.below hba)
          have HG3a := Lib.hid (only_trans HGb.out (only_trans HG3.out (only_below hba)))
          have HS3 := Lib.hid ((HSb.out.only (by omega) HG3.out).below (hba.mono (by omega)))
          have HOB := Lib.hid hob
          have HKV := Lib.hid hkv
          have HM : acc.length + 1 ≤ maxLen := by unfold maxLen; omega
          have HMB : (acc.length + 1) * 64 ≤ 140737488355328 := by omega
          have HBS : w.heap.size + 1 ≤ (w3.alloc (.cells #[.int .i64 x.kind, .int .u64 x.num, .slice A1 x.bs.length c1, .slice A2 x.sub.length c2] 26)).heap.size := by omega
          clear hba hob hkv HREP HR3 HG3 HPb HRb HGb HOb HFb HSb p0c p1c p2c
          go_wp2_with (first
            | (at_builtin
               refine wpList_append_seg _ rfl (.tmp 18) (.tmp 24) _ (by rfl) (w.heap.size + 1) 26 i0 _ 64 Tryd.underlying24 hi0 hz0' 4 hz1' hz2' rfl (by omega) vv acc.length vs (by rfl) HO3.out
                 0 (w3.heap.size + 1) (some ⟨w3.heap.size, 0, none⟩) 1 1 [.int .i64 x.kind, .int .u64 x.num, .slice A1 x.bs.length c1, .slice A2 x.sub.length c2] (by rfl) rfl HSG.out (by simp [Value.oneCell']) HM HMB HBS ?_
               intro v4 w4 hown4 hg4 hat4
               have HO4 := Lib.hid hown4
               have HF4 := Lib.hid (HF3.out.snoc HX3.out (by omega) (by omega) hg4 (fun r hr => (HOB.out r hr).2) hat4)
               have HP4 := Lib.hid (CbWrite.Blk.grown HP3.out hg4 HKV.out)
               have HR4 := Lib.hid (CbWrite.Blk.grown HR3a.out hg4 (fun e => by have := HOB.out g e; omega))
               have HT4 := Lib.hid (Two.of_row hg4 g)
               obtain ⟨p0c, p1c, p2c⟩ := HP4.out.three
               clear hown4 hg4 hat4))
          have hsz4 := HT4.out.size
          have hz4 : (w4.alloc (.cells #[.int .i64 m2, .int .u64 n2, .bool o2] 90)).heap.size = w4.heap.size + 1 := World.size_alloc _ _
          have hb4 := (Below.refl w4.heap.size w4).alloc (Nat.le_refl _) (.cells #[.int .i64 m2, .int .u64 n2, .bool o2] 90)
          have HS4 := Lib.hid ((HS3.out.below (HT4.out.keep (by omega) (fun r hr => by have := HOB.out r hr; omega))).below (hb4.mono (by omega)))
          have HG4 := Lib.hid (only_trans (Two.after HG3a.out HT4.out (fun r hr => by have := HOB.out r hr; omega)) (only_below hb4))
          have HP4a := Lib.hid (Blk.new w4 90 #[.int .i64 m2, .int .u64 n2, .bool o2])
          have HR4a := Lib.hid ((show Rdr w4 g A c xs j3 l3 from HR4.out).below hb4)
          have HO4a := Lib.hid (own_later HO4.out hb4)
          have HF4a := Lib.hid (HF4.out.keep (fun q _ h2 => hb4.cell h2))
          have hzk : ∀ q, v4.ownBlock = some q → q ≠ w4.heap.size := fun q hq => by have := (HO4.out.lt q hq).2; omega
          have hov : ∀ q, v4.ownBlock = some q → w.heap.size + 1 ≤ q := fun q hq => (HO4.out.lt q hq).1
          have HZK := Lib.hid hzk
          have HOV := Lib.hid hov
          have hk4 : w.heap.size < w4.heap.size := by omega
          clear hb4 hzk hov HO3 HF3 HP3 HR3a HX3 HSG HS3 HG3a HT4 HR4 HP4 HO4 HF4 p0c p1c p2c HKV HOB
          generalize w4.heap.size = k4 at *
          generalize w4.alloc (.cells #[.int .i64 m2, .int .u64 n2, .bool o2] 90) = W4 at *
          generalize hrd4 : HeadP.read xs j3 = rd4
          obtain ⟨m5, n5, o5, j5, e5⟩ := rd4
          by_cases he5 : e5 = 0
          · subst he5
            have C5 := head_ok g A c xs j3 l3 m5 n5 j5 o5 _ HR4a.out HS4.out.lst HS4.out.bts HS4.out.cap HS4.out.max hrd4
            have hrb5 := HeadP.read_ok xs j3 HS.out.bts m5 n5 o5 j5 hrd4
            have HRD5 := Lib.hid hrd4
            clear hrd4
            refine C5.mono ?_
            clear C5
            rintro e w5 ⟨rfl, HG5, HR5⟩
            have HP5 := Lib.hid (CbWrite.Blk.grown HP4a.out HG5.out (by simp; omega))
            have HO5 := Lib.hid (HO4a.out.kept HG5.out (.inr (fun e => by have := HOV.out g e; omega)))
            have HF5 := Lib.hid (HF4a.out.keep (fun q h1 h2 => World.cell?_of_block (HG5.out.block q.block (by omega) (fun e => by injection e; omega))))
            have hsz5 := HG5.out.size
            have HG5a := Lib.hid (only_trans HG4.out HG5.out)
            obtain ⟨p0c, p1c, p2c⟩ := HP5.out.three
            have f0 := HP5.out.frozen 0
            have f1 := HP5.out.frozen 1
            have f2 := HP5.out.frozen 2
            clear HG5 HP4a HO4a HF4a HR4a HS4 HG4
            go_wp2_with fail
            go_roundg (xs.length - j5.toNat)
            case measure => omega
            case rel =>
              refine ⟨acc ++ [x], vs ++ [.int .i64 x.kind, .int .u64 x.num, .slice A1 x.bs.length c1, .slice A2 x.sub.length c2], k4, m5, n5, o5, j3, j5, l3, rfl, rfl, hk4, ?_, by omega, by omega, by omega, by omega, by omega, by omega, hl3, by simp; omega, HRD5, HCH3, Lib.hid ⟨_, rfl, ?_, ?_⟩, Lib.hid (blk_set3 HP5.out _ _ _), Lib.hid (blk_far3 HR5.out (by omega) _ _ _), Lib.hid (only_own HG5a.out (only_set3 (World.grownBy.refl _ _) _ _ _) (by omega))⟩
              · simp [World.setCell]; omega
              · have := HO5.out.kept (only_set3 (World.grownBy.refl w5 (some k4)) (.int .i64 m5) (.int .u64 n5) (.bool o5)) (.inr (fun e => HZK.out _ e rfl))
                simpa using this
              · refine (HF5.out.keep (fun q h1 h2 => ?_)).more ?_
                · exact World.cell?_of_block ((only_set3 (World.grownBy.refl w5 (some k4)) (.int .i64 m5) (.int .u64 n5) (.bool o5)).block q.block (by omega) (fun e => by injection e; omega))
                · simp [World.setCell]; omega
          · have C5 := head_err g A c xs j3 l3 m5 n5 j5 e5 o5 _ HR4a.out HS4.out.lst HS4.out.bts HS4.out.cap HS4.out.max hrd4 he5
            have HC : Hid (OpenR xs d [] p left (.err e5)) := Lib.hid (HCH3.out (.err e5) (.bad hrd4 he5))
            clear hrd4 he5
            refine C5.mono ?_
            clear C5
            rintro e w5 ⟨rfl, HG5⟩
            unfold fault
            go_wp2_with fail
            exact ⟨rfl, .err e5, HC.out, rfl, Lib.hid (only_trans HG4.out HG5.out)⟩
      · have HE := Lib.hid he
        clear he
        obtain ⟨A1, c1, rfl, hc1, hm1⟩ := own_sl HOb.out
        go_wp2_with fail
        go_ret
        have hc := HCH.out _ (.stop HRD2.out HE.out)
        exact ⟨.ok acc j2 lf, hc, A1, c1, rfl, hc1, hm1, Lib.hid ((firm_ItemsV HOb.out HFb.out).more (by omega) (Nat.le_refl _)), HRb, HGb, by omega, hjx, hlf, hlf'⟩
  · have C1 := Lib.hid (head_err g A c xs p left m1 n1 j1 e1 o1 _ HRa.out HSa.out.lst HSa.out.bts HSa.out.cap HSa.out.max hrd he1)
    have HC : Hid (OpenR xs d [] p left (.err e1)) := Lib.hid (.bad hrd he1)
    clear hrd he1
    go_enter Tryd.func79, Tryd.ntmps79
    go_wp2_with fail
    refine C1.out.mono ?_
    rintro e w1 ⟨rfl, HG1⟩
    unfold fault
    go_wp2_with fail
    exact ⟨rfl, _, HC.out, rfl, Lib.hid (only_trans (only_below HB0.out) HG1.out)⟩
end Go.Proofs.YtoieadbifhealaaDoor.CbOpen
