/- The contract of the reader's list, where it is counted: on what item does one deeper. -/
import Derived.Test.YtoieadbifhealaaDoorCbOpen
namespace Go.Proofs.YtoieadbifhealaaDoor.CbMany
open Go.RowKit Wd Cb CbCopy CbRight CbWrite CbHead CbPiece CbBytes U8V CbList CbOpen
attribute [local go_sem ↓] Go.wp_at_zero Go.wp_at_succ

set_option maxRecDepth 100000 in
set_option maxHeartbeats 1000000 in
theorem list_need (g : Nat) (A : Option Addr) (c : Nat) (xs : List Int) (d : Nat) (p left m n : Int) (w : World) (hR : Rdr w g A c xs p left) (hS : Src w g A c xs) (h0 : 0 ≤ p) (h1 : p ≤ xs.length) (hn0 : 0 ≤ n) (hn : (xs.length : Int) - p < n) :
    Calls Tryd.prog 79 #[.pointer (some ⟨g, 0, none⟩), .agg #[.int .i64 m, .int .u64 n, .bool false], .int .i64 d] w fun e w' => e = fault 8 ∧ Hid (w.grownBy w' (some g)) := by
  have C1 := Lib.hid (need_err g A c xs p left n _ (hR.alloc (.cells #[.int .i64 m, .int .u64 n, .bool false] 90)) hS.cap hS.max h0 h1 hn0 hn)
  have HB0 := Lib.hid ((Below.refl w.heap.size w).alloc (Nat.le_refl _) (.cells #[.int .i64 m, .int .u64 n, .bool false] 90))
  clear hn hR hS
  go_enter Tryd.func79, Tryd.ntmps79
  go_wp2_with fail
  refine C1.out.mono ?_
  rintro e w1 ⟨rfl, q, rfl⟩
  unfold fault
  go_wp2_with fail
  exact ⟨rfl, rfl, Lib.hid (only_below (below_drewNv HB0.out q))⟩

set_option maxRecDepth 100000 in
set_option maxHeartbeats 2000000 in
theorem list_many (g : Nat) (A : Option Addr) (c : Nat) (xs : List Int) (d : Nat) (hd : d ≤ 6) (hI : ItemOk g A c xs (d + 1)) (p left m n : Int) (w : World) (hR : Rdr w g A c xs p left) (hS : Src w g A c xs) (h0 : 0 ≤ p) (h1 : p ≤ xs.length) (hn0 : 0 ≤ n) (hn : ¬ (xs.length : Int) - p < n) (hl0 : 0 ≤ left) (hl1 : left ≤ 256) :
    Calls Tryd.prog 79 #[.pointer (some ⟨g, 0, none⟩), .agg #[.int .i64 m, .int .u64 n, .bool false], .int .i64 d] w fun e w' => ∃ r, ManyR xs d n.toNat [] p left r ∧ LOut w g A c xs p left e w' r := by
  obtain ⟨i0, hi0, hz0', hz1', hz2'⟩ := info_parts info_item
  have hgl := hR.lt
  have hlen := hS.len
  have C1 := Lib.hid (need_ok g A c xs p left n _ (hR.alloc (.cells #[.int .i64 m, .int .u64 n, .bool false] 90)) hS.cap hS.max h0 h1 hn0 hn)
  have HB0 := Lib.hid ((Below.refl w.heap.size w).alloc (Nat.le_refl _) (.cells #[.int .i64 m, .int .u64 n, .bool false] 90))
  have hz : (w.alloc (.cells #[.int .i64 m, .int .u64 n, .bool false] 90)).heap.size = w.heap.size + 1 := World.size_alloc _ _
  have HRa := Lib.hid (hR.alloc (.cells #[.int .i64 m, .int .u64 n, .bool false] 90))
  have HK0 := Lib.hid (Blk.new w 90 #[.int .i64 m, .int .u64 n, .bool false])
  have HS := Lib.hid hS
  have HI := Lib.hid hI
  obtain ⟨nn, rfl⟩ := Int.eq_ofNat_of_zero_le hn0
  clear hR hS hI
  go_enter Tryd.func79, Tryd.ntmps79
  go_wp2_with fail
  refine C1.out.mono ?_
  rintro e w1 ⟨rfl, q1, rfl⟩
  have HR1 : Hid (Rdr ((w.alloc (.cells #[.int .i64 m, .int .u64 nn, .bool false] 90)).drewN q1) g A c xs p left) := Lib.hid (HRa.out.drewN q1)
  have HK1 : Hid (Blk ((w.alloc (.cells #[.int .i64 m, .int .u64 nn, .bool false] 90)).drewN q1) w.heap.size 90 #[.int .i64 m, .int .u64 nn, .bool false]) := Lib.hid (HK0.out.drewN q1)
  have HB1 := Lib.hid (below_drewNv HB0.out q1)
  have hz1 : ((w.alloc (.cells #[.int .i64 m, .int .u64 nn, .bool false] 90)).drewN q1).heap.size = w.heap.size + 1 := hz
  clear C1 HB0 HRa HK0 hz
  generalize (w.alloc (.cells #[.int .i64 m, .int .u64 nn, .bool false] 90)).drewN q1 = W1 at *
  obtain ⟨k0, k1, k2⟩ := HK1.out.three
  have HO1 := Lib.hid (nilRow W1 (w.heap.size + 1) 26 4)
  have HG1 : Hid (w.grownBy W1 (some g)) := Lib.hid (only_below HB1.out)
  go_wp2_with fail
  clear k0 k1 k2 HK1 HB1
  go_loopg [7, 34] nn (fun gk v iv wr => ∃ (acc : List Itm) (vs : List Value) (i : Nat) (q lf : Int), gk = nn - i ∧ iv = .int .u64 i ∧ i ≤ nn ∧ w.heap.size < wr.heap.size ∧ p ≤ q ∧ q ≤ xs.length ∧ 0 ≤ lf ∧ lf + acc.length ≤ left ∧
      Hid (∀ r, ManyR xs d (nn - i) acc q lf r → ManyR xs d nn [] p left r) ∧ Hid (∃ vv, vv = v ∧ wr.ownsRow (w.heap.size + 1) 26 4 vv acc.length vs ∧ Firm wr (w.heap.size + 1) wr.heap.size vv.ownBlock acc vs) ∧ Hid (Rdr wr g A c xs q lf) ∧ Hid (w.grownBy wr (some g)))
  case atStart => exact ⟨[], [], 0, p, left, rfl, rfl, by omega, by omega, by omega, by omega, by omega, by simp, Lib.hid (fun _ h => h), Lib.hid ⟨_, rfl, HO1.out, Firm.none_ _ _ _ _⟩, HR1, HG1⟩
  case round =>
    obtain ⟨acc, vs, i, q, lf, hgk, rfl, hin, hzr, hpq, hqx, hlf, hlf', HCH, ⟨vv, rfl, hO, hF⟩, HR2, HG2⟩ := hrel
    have HO := Lib.hid hO
    have HF := Lib.hid hF
    have HSr := Lib.hid (HS.out.only hgl HG2.out)
    clear HO1 HR1 HG1 hO hF
    by_cases hi : i < nn
    · go_wp2_with fail
      obtain ⟨kk, hk1, hk2⟩ : ∃ kk, nn - i = kk + 1 ∧ nn - (i + 1) = kk := ⟨nn - (i + 1), by omega, rfl⟩
      have HCHk : Hid (∀ r, ManyR xs d (kk + 1) acc q lf r → ManyR xs d nn [] p left r) := Lib.hid (by rw [← hk1]; exact HCH.out)
      have HK2 := Lib.hid hk2
      clear HCH hk1 hk2
      generalize hrd2 : HeadP.read xs q = rd2
      obtain ⟨m2, n2, o2, j2, e2⟩ := rd2
      by_cases he2 : e2 = 0
      · subst he2
        have C2 := head_ok g A c xs q lf m2 n2 j2 o2 _ HR2.out HSr.out.lst HSr.out.bts HSr.out.cap HSr.out.max hrd2
        have hrb2 := HeadP.read_ok xs q HS.out.bts m2 n2 o2 j2 hrd2
        have HRD2 := Lib.hid hrd2
        clear hrd2
        refine C2.mono ?_
        clear C2
        rintro e w2 ⟨rfl, HG2b, HRb⟩
        have HGb := Lib.hid (only_trans HG2.out HG2b.out)
        have HOb := Lib.hid (HO.out.kept HG2b.out (.inr (fun e => by have := (HO.out.lt g e).1; omega)))
        have HFb := Lib.hid ((HF.out.keep (fun q h1 h2 => World.cell?_of_block (HG2b.out.block q.block h2 (fun e => by injection e; omega)))).more HG2b.out.size)
        have HSb := Lib.hid (HSr.out.only (by omega) HG2b.out)
        have hsz2 := HG2b.out.size
        clear HG2b HG2 HO HF HSr HR2
        go_wp2_with fail
        have C3 := HI.out m2 n2 o2 j2 lf w2 HRb.out HSb.out (by omega) hrb2.2.2.1 hrb2.2.2.2.2.1 hrb2.2.2.2.2.2 hlf (by omega)
        have ed : ((d + 1 : Nat) : Int) = (d : Int) + 1 := by omega
        rw [ed] at C3
        refine C3.mono ?_
        clear ed C3
        rintro e w3 ⟨r3, hr3, ho3⟩
        cases r3 with
        | err e3 =>
          obtain ⟨rfl, HG3⟩ := ho3
          have HC : Hid (ManyR xs d nn [] p left (.err e3)) := Lib.hid (HCHk.out _ (.cut HRD2.out hr3))
          clear hr3
          unfold fault
          go_wp2_with fail
          exact ⟨rfl, _, HC.out, rfl, Lib.hid (only_trans HGb.out HG3.out)⟩
        | ok x j3 l3 =>
          obtain ⟨v, rfl, HV, HR3, HG3, hj3, hj3', hl3, hl3'⟩ := ho3
          have HCH3 : Hid (∀ r, ManyR xs d (nn - (i + 1)) (acc ++ [x]) j3 l3 r → ManyR xs d nn [] p left r) := Lib.hid (fun r h => HCHk.out r (.more HRD2.out hr3 (by rw [← HK2.out]; exact h)))
          obtain ⟨cs, rfl, hrep⟩ := HV.out
          obtain ⟨A1, c1, A2, c2, rfl, _⟩ := hrep.open_
          have HREP := Lib.hid hrep
          clear hr3 hrep HV HCHk
          have hob : ∀ r, vv.ownBlock = some r → w.heap.size + 1 ≤ r ∧ r < w2.heap.size := fun r hr => HOb.out.lt r hr
          have hsz3 := HG3.out.size
          have hza : (w3.alloc (.cells #[.int .i64 x.kind, .int .u64 x.num, .slice A1 x.bs.length c1, .slice A2 x.sub.length c2] 26)).heap.size = w3.heap.size + 1 := World.size_alloc _ _
          have hba := (Below.refl w3.heap.size w3).alloc (Nat.le_refl _) (.cells #[.int .i64 x.kind, .int .u64 x.num, .slice A1 x.bs.length c1, .slice A2 x.sub.length c2] 26)
          have HSG : Hid (Seg (w3.alloc (.cells #[.int .i64 x.kind, .int .u64 x.num, .slice A1 x.bs.length c1, .slice A2 x.sub.length c2] 26)) 0 (w3.heap.size + 1) (some ⟨w3.heap.size, 0, none⟩) [.int .i64 x.kind, .int .u64 x.num, .slice A1 x.bs.length c1, .slice A2 x.sub.length c2]) :=
            Lib.hid (Seg.of_lst (Lst.lit w3 #[.int .i64 x.kind, .int .u64 x.num, .slice A1 x.bs.length c1, .slice A2 x.sub.length c2] 26))
          have HO3 := Lib.hid (own_later (HOb.out.kept HG3.out (.inr (fun e => by have := hob g e; omega))) hba)
          have HF3 := Lib.hid ((HFb.out.keep (fun q h1 h2 => World.cell?_of_block (HG3.out.block q.block (by omega) (fun e => by injection e; omega)))).keep (fun q _ h2 => hba.cell (by omega)))
          have HX3 := Lib.hid ((HREP.out.below hba).more (Nat.le_refl _) (show w3.heap.size ≤ (w3.alloc (.cells #[.int .i64 x.kind, .int .u64 x.num, .slice A1 x.bs.length c1, .slice A2 x.sub.length c2] 26)).heap.size by omega))
          have HR3a := Lib.hid (HR3.out.below hba)
          have HG3a := Lib.hid (only_trans HGb.out (only_trans HG3.out (only_below hba)))
          have HOB := Lib.hid hob
          have HM : acc.length + 1 ≤ maxLen := by unfold maxLen; omega
          have HMB : (acc.length + 1) * 64 ≤ 140737488355328 := by omega
          have HBS : w.heap.size + 1 ≤ (w3.alloc (.cells #[.int .i64 x.kind, .int .u64 x.num, .slice A1 x.bs.length c1, .slice A2 x.sub.length c2] 26)).heap.size := by omega
          have hiw : IntKind.u64.wrap ((i : Int) + 1) = (i : Int) + 1 := by rw [IntKind.wrap_u64]; omega
          clear hba hob HREP HR3 HG3 HRb HGb HOb HFb HSb
          go_wp2_with (first
            | (at_builtin
               refine wpList_append_seg _ rfl (.tmp 36) (.tmp 43) _ (by rfl) (w.heap.size + 1) 26 i0 _ 64 Tryd.underlying24 hi0 hz0' 4 hz1' hz2' rfl (by omega) vv acc.length vs (by rfl) HO3.out
                 0 (w3.heap.size + 1) (some ⟨w3.heap.size, 0, none⟩) 1 1 [.int .i64 x.kind, .int .u64 x.num, .slice A1 x.bs.length c1, .slice A2 x.sub.length c2] (by rfl) rfl HSG.out (by simp [Value.oneCell']) HM HMB HBS ?_
               intro v4 w4 hown4 hg4 hat4
               have HO4 := Lib.hid hown4
               have HF4 := Lib.hid (HF3.out.snoc HX3.out (by omega) (by omega) hg4 (fun r hr => (HOB.out r hr).2) hat4)
               have HR4 := Lib.hid (CbWrite.Blk.grown HR3a.out hg4 (fun e => by have := HOB.out g e; omega))
               have HT4 := Lib.hid (Two.of_row hg4 g)
               clear hown4 hg4 hat4))
          have hsz4 := HT4.out.size
          have HG4 := Lib.hid (Two.after HG3a.out HT4.out (fun r hr => by have := HOB.out r hr; omega))
          go_roundg (nn - (i + 1))
          case measure => omega
          case rel =>
            refine ⟨acc ++ [x], vs ++ [.int .i64 x.kind, .int .u64 x.num, .slice A1 x.bs.length c1, .slice A2 x.sub.length c2], i + 1, j3, l3, rfl, by first | rfl | (congr 1), by omega, by omega, by omega, by omega, hl3, by simp; omega, HCH3, Lib.hid ⟨_, rfl, by simpa using HO4.out, HF4.out⟩, HR4, HG4⟩
      · have C2 := head_err g A c xs q lf m2 n2 j2 e2 o2 _ HR2.out HSr.out.lst HSr.out.bts HSr.out.cap HSr.out.max hrd2 he2
        have HC : Hid (ManyR xs d nn [] p left (.err e2)) := Lib.hid (HCHk.out (.err e2) (.bad hrd2 he2))
        clear hrd2 he2
        refine C2.mono ?_
        clear C2
        rintro e w2 ⟨rfl, HG2b⟩
        unfold fault
        go_wp2_with fail
        exact ⟨rfl, .err e2, HC.out, rfl, Lib.hid (only_trans HG2.out HG2b.out)⟩
    · obtain rfl : i = nn := by omega
      obtain ⟨A1, c1, rfl, hc1, hm1⟩ := own_sl HO.out
      go_wp2_with fail
      go_ret
      have hc := HCH.out (.ok acc q lf) (by rw [Nat.sub_self]; exact .done)
      exact ⟨.ok acc q lf, by simpa using hc, A1, c1, rfl, hc1, hm1, Lib.hid ((firm_ItemsV HO.out HF.out).more (by omega) (Nat.le_refl _)), HR2, HG2, by omega, hqx, hlf, hlf'⟩
end Go.Proofs.YtoieadbifhealaaDoor.CbMany
