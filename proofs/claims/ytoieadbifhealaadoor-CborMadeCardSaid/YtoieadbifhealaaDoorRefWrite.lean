/- The contract of ref03's Write: of an item that may be: its shortest bytes. -/
import Derived.Test.YtoieadbifhealaaDoorRefRight
import Derived.Test.YtoieadbifhealaaDoorRefHead
import Derived.Test.YtoieadbifhealaaDoorCbShort
import Derived.Test.YtoieadbifhealaaDoorGreat
namespace Go.Proofs.YtoieadbifhealaaDoor.RefWrite
open Go.RowKit Wd Cb CbCopy CbRight RefRight RefHead

/-- The box, and one block more behind it. -/
structure _root_.Go.Proofs.YtoieadbifhealaaDoor.RefRight.Boxed (w W : World) (x : Itm) (A A' : Option Addr) (c c' : Nat) : Prop where
  blk : Blk W w.heap.size 31 #[.int .i64 x.kind, .int .u64 x.num, .slice A x.bs.length c, .slice A' x.sub.length c']
  below : Below w.heap.size w W
  items : ItemsV W 0 w.heap.size x.sub A'
  size2 : w.heap.size + 1 ≤ W.heap.size
theorem _root_.Go.Proofs.YtoieadbifhealaaDoor.RefRight.Box.to2 {w W0 : World} {x : Itm} {A A' : Option Addr} {c c' : Nat} (h : Box w W0 x A A' c c') (o : Obj) : Boxed w (W0.alloc o) x A A' c c' :=
  ⟨h.blk.alloc o, h.below.alloc (by have := h.size2; omega) o, h.items.alloc (by have := h.size2; omega) o, by have := h.size2; simp; omega⟩
theorem _root_.Go.Proofs.YtoieadbifhealaaDoor.RefRight.Boxed.after {w W W' : World} {x : Itm} {A A' : Option Addr} {c c' : Nat} (h : Boxed w W x A A' c c') (hb : Below W.heap.size W W') : Boxed w W' x A A' c c' :=
  ⟨h.blk.below hb h.blk.lt, below_next h.below (by have := h.size2; omega) hb, h.items.below (hb.mono (by have := h.size2; omega)), Nat.le_trans h.size2 hb.size⟩

set_option maxRecDepth 100000 in
set_option maxHeartbeats 4000000 in
theorem refWrite_rec (N : Nat) : ∀ (x : Itm) (v : Value) (w : World), deep x ≤ N → ItemV w 0 w.heap.size x v → fine x = true → size x ≤ 100000 → (enc x).length ≤ 100000000 →
    Calls Tryd.prog 20 #[v] w fun e w' => ∃ A c, e = .returned (.slice A (enc x).length c) ∧ Hid (Lst w' w'.heap.size A (u8s (enc x))) ∧ Below w.heap.size w w' := by
  obtain ⟨i0, hi0, hz0, hz1, hz2⟩ := info_parts CbCopy.info_u8
  induction N with
  | zero => intro x v w hN; have := deep_pos x; omega
  | succ N ih =>
    intro x v w hN hv hf hsz hle
    have hsane := hv.sane
    obtain ⟨A, c, A', c', rfl, hbox, h1, h2, h3, hb, h4⟩ := box_of hv
    obtain ⟨-, -, -, -, -, hki, hni, -⟩ := hv.open_
    have hds := Nat.le_of_eq (deep_sub x)
    have hds' := Nat.le_of_eq (deep_sub x).symm
    have hss' := Nat.le_of_eq (size_sub x).symm
    have hlx := length_le_sizes x.sub
    have hkk := fine_kind x hf
    have hfs : fines x.sub = true := by rw [fine_sub] at hf; exact (Bool.and_eq_true_iff.1 hf).2
    have hes := congrArg List.length (enc_sub x)
    rw [List.length_append, List.length_append] at hes
    have hes1 := Nat.le_of_eq hes.symm
    have hrh : HeadP.right x.kind (cn x) false = true := by rcases hkk with h | h | h | h <;> simp [HeadP.right, h]
    have hcn : 0 ≤ cn x ∧ cn x ≤ 18446744073709551615 := by
      unfold cn
      split
      · omega
      · split
        · omega
        · omega
    have HX := Lib.hid hbox
    have hcap := hbox.cap
    have HS := Lib.hid (h3.below hbox.below)
    have HFS := Lib.hid hfs
    have HES := Lib.hid (enc_sub x)
    have HH := Lib.hid (fun (W : World) => write_own x.kind (cn x) false W hrh hcn.1 hcn.2)
    have hbx : x.bs.length ≤ 100000000 := by omega
    have hw1 : IntKind.u64.wrap (x.bs.length : Int) = x.bs.length := by rw [IntKind.wrap_u64]; omega
    have hw2 : IntKind.u64.wrap (x.sub.length : Int) = x.sub.length := by rw [IntKind.wrap_u64]; omega
    have HCN := Lib.hid (show (x.kind = 4 → cn x = x.sub.length) ∧ ((x.kind = 2 ∨ x.kind = 3) → cn x = x.bs.length) ∧ (x.kind = 0 → cn x = x.num) from ⟨fun h => by unfold cn; rw [if_neg (by omega), if_pos h], fun h => by unfold cn; rw [if_pos h], fun h => by unfold cn; rw [if_neg (by omega), if_neg (by omega)]⟩)
    clear hv h3 hbox h2 hb hsane hf hes hfs hrh
    go_enter Tryd.func20, Tryd.ntmps20
    by_cases k4 : x.kind = 4
    · have t0 : (x.kind == 4) = true := by simpa using k4
      have HC := Lib.hid (HCN.out.1 k4)
      clear k4 hkk
      have hh := HH.out
      rw [HC.out] at hh
      have HH2 := Lib.hid hh
      have hes2 := HES.out
      rw [HC.out] at hes2
      have HE2 := Lib.hid hes2
      have hbl2 := Great.bytes_le x.kind ((x.sub.length : Int)) false
      have hel := congrArg List.length hes2
      rw [List.length_append, List.length_append] at hel
      have hel1 := Nat.le_of_eq hel.symm
      have HY0 := Lib.hid (RefRight.Box.to2 HX.out (.cells #[.int .i64 x.kind, .int .u64 ((x.sub.length : Int)), .bool false] 83))
      have HS0 := Lib.hid (HS.out.alloc (by have := HX.out.size2; omega) (.cells #[.int .i64 x.kind, .int .u64 ((x.sub.length : Int)), .bool false] 83))
      clear hh hes2 hel
      go_wp2_with fail
      generalize (w.alloc (.cells #[.int .i64 x.kind, .int .u64 x.num, .slice A x.bs.length c, .slice A' x.sub.length c'] 31)).alloc (.cells #[.int .i64 x.kind, .int .u64 ((x.sub.length : Int)), .bool false] 83) = W1 at *
      refine (HH2.out W1).mono ?_
      rintro e w2 ⟨A5, c5, rfl, ho2, hb2⟩
      have HO2 := Lib.hid ho2
      have HB2 := Lib.hid hb2
      have HY2 := Lib.hid (HY0.out.after hb2)
      have HS2 := Lib.hid (HS0.out.below (hb2.mono (by have := HY0.out.size2; omega)))
      have hsz1 : w.heap.size + 1 ≤ W1.heap.size := HY0.out.size2
      have hsz2 : w.heap.size + 1 ≤ w2.heap.size := HY2.out.size2
      have hszb : W1.heap.size ≤ w2.heap.size := hb2.size
      generalize hEE : HeadP.bytes x.kind ((x.sub.length : Int)) false = E at *
      have hmx : ∀ k, k ≤ 200000000 → k ≤ maxLen := fun k hk => by unfold maxLen; omega
      have HMX := Lib.hid hmx
      have d2 : w2.cell? ⟨w.heap.size, 2, none⟩ = some (.slice A x.bs.length c) := by simpa using HY2.out.blk.cell 2
      clear hmx ho2 hb2 HH HH2 hEE
      go_wp2_with first
        | (at_builtin
           refine wpList_append_lst _ rfl (.tmp 29) (.tmp 31) _ (by rfl) W1.heap.size 5 i0 _ 1 Tryd.underlying23 hi0 hz0 hz1 hz2 rfl (.slice A5 E.length c5) E.length (u8s E) (by rfl)
             HO2.out w.heap.size A x.bs.length c (u8s x.bs) (by rfl) (by simp) HS2.out.lst (u8_one x.bs) (HMX.out _ (by omega)) (by omega) hszb ?_
           intro v3 w3 hown3 hg3 hat3
           have HO3 := Lib.hid hown3
           have HB3 := Lib.hid (HB2.out.trans ((Below.refl W1.heap.size w2).grown hg3 hszb (fun q hq => (HO2.out.lt q hq).1)))
           clear hown3 hg3 hat3)
        | fail
      have HO3' : Hid (w3.ownsRow W1.heap.size 5 1 v3 (E ++ x.bs ++ encs (x.sub.take 0)).length (u8s (E ++ x.bs ++ encs (x.sub.take 0)))) := Lib.hid (by simpa [u8s, encs] using HO3.out)
      clear HO3 HO2 d2 HY2 HS2
      clear t0
      go_loopw [4, 5] (fun ov i wr => ∃ (k : Nat), k ≤ x.sub.length ∧ i = .int .i64 k ∧ Hid (wr.ownsRow W1.heap.size 5 1 ov (E ++ x.bs ++ encs (x.sub.take k)).length (u8s (E ++ x.bs ++ encs (x.sub.take k)))) ∧ Hid (Below W1.heap.size W1 wr)) (fun _ i _ => x.sub.length - (intOf i).toNat)
      case atStart => exact ⟨0, by omega, rfl, HO3', HB3⟩
      case round =>
        obtain ⟨k, hk, rfl, HOk, HWk⟩ := hrel
        have HYk := Lib.hid (HY0.out.after HWk.out)
        have hszk : W1.heap.size ≤ wr.heap.size := HWk.out.size
        have g3 : wr.cell? ⟨w.heap.size, 3, none⟩ = some (.slice A' x.sub.length c') := by simpa using HYk.out.blk.cell 3
        by_cases hlt : k < x.sub.length
        · obtain ⟨b, o, A1, cc, A2, cc', rfl, b0, b1, e0, e1, e2, e3, q1, q2, q3, q4, q5, q6, q7, q8, q9⟩ := HYk.out.items.at_ hlt
          have htl := encs_take_le x.sub (k + 1)
          have hsn := encs_snoc x.sub k hlt
          have hsl := congrArg List.length hsn
          rw [List.length_append] at hsl
          have hsl1 := Nat.le_of_eq hsl
          have hsl2 := Nat.le_of_eq hsl.symm
          have hLk : (E ++ x.bs ++ encs (x.sub.take k)).length ≤ E.length + x.bs.length + (encs (x.sub.take k)).length := by simp; omega
          have HSN := Lib.hid hsn
          have CI := Lib.hid (ih x.sub[k] _ wr (by have := deep_at x.sub k hlt; omega) ((ItemV.of q1 q2 q3 q4 q5 q6 q7 q8 q9).more (Nat.le_refl _) (by omega)) (fines_at x.sub k hlt HFS.out) (by have := size_at x.sub k hlt; omega) (by omega))
          have c0 : decide ((k : Int) < (x.sub.length : Int)) = true := decide_eq_true (by omega)
          clear q3 q6 q9 hsn hsl
          go_wp2_with first
            | (go_at_call 20
               refine CI.out.mono ?_
               rintro e w4 ⟨A6, c6, rfl, HL4, hb4⟩
               have HB4 := Lib.hid hb4
               have HO4 := Lib.hid (own_later HOk.out hb4)
               have hsz4 := hb4.size
               clear hb4)
            | (at_builtin
               refine wpList_append_lst _ rfl (.tmp 40) (.tmp 46) _ (by rfl) W1.heap.size 5 i0 _ 1 Tryd.underlying23 hi0 hz0 hz1 hz2 rfl _ _ _ (by rfl)
                 HO4.out w4.heap.size A6 (enc x.sub[k]).length c6 (u8s (enc x.sub[k])) (by rfl) (by simp) HL4.out (u8_one _) (HMX.out _ (by omega)) (by omega) (by omega) ?_
               intro v5 w5 hown5 hg5 hat5
               have HO5 := Lib.hid hown5
               have HB5 := Lib.hid ((HWk.out.trans (HB4.out.mono hszk)).grown hg5 (by omega) (fun q hq => (HOk.out.lt q hq).1))
               clear hown5 hg5 hat5)
            | fail
          go_roundw
          case rel => exact ⟨k + 1, by omega, by go_num, Lib.hid (by rw [HSN.out]; simpa [u8s, Nat.add_assoc] using HO5.out), HB5⟩
          case measure => simp [intOf]; omega
        · obtain rfl : k = x.sub.length := by omega
          have c0 : decide ((x.sub.length : Int) < (x.sub.length : Int)) = false := decide_eq_false (by omega)
          have hov := HOk.out
          rw [take_all, ← HE2.out] at hov
          obtain ⟨A6, c6, rfl, _, _, _⟩ := own_slice hov
          have HOV := Lib.hid hov
          clear hov
          go_wp2_with fail
          go_ret
          exact ⟨A6, c6, rfl, Lib.hid (Lst.of_own HOV.out), HYk.out.below⟩
    · have t0 : (x.kind == 4) = false := by simpa using k4
      by_cases k0 : x.kind = 0
      · have t1 : decide (0 < x.kind) = false := decide_eq_false (by omega)
        have HC := Lib.hid (HCN.out.2.2 k0)
        clear k0 k4 hkk
        have hh := HH.out
        rw [HC.out] at hh
        have HH2 := Lib.hid hh
        have hes2 := HES.out
        rw [HC.out] at hes2
        have HE2 := Lib.hid hes2
        have hbl2 := Great.bytes_le x.kind (x.num) false
        have hel := congrArg List.length hes2
        rw [List.length_append, List.length_append] at hel
        have hel1 := Nat.le_of_eq hel.symm
        have HY0 := Lib.hid (RefRight.Box.to2 HX.out (.cells #[.int .i64 x.kind, .int .u64 (x.num), .bool false] 83))
        have HS0 := Lib.hid (HS.out.alloc (by have := HX.out.size2; omega) (.cells #[.int .i64 x.kind, .int .u64 (x.num), .bool false] 83))
        clear hh hes2 hel
        go_wp2_with fail
        generalize (w.alloc (.cells #[.int .i64 x.kind, .int .u64 x.num, .slice A x.bs.length c, .slice A' x.sub.length c'] 31)).alloc (.cells #[.int .i64 x.kind, .int .u64 (x.num), .bool false] 83) = W1 at *
        refine (HH2.out W1).mono ?_
        rintro e w2 ⟨A5, c5, rfl, ho2, hb2⟩
        have HO2 := Lib.hid ho2
        have HB2 := Lib.hid hb2
        have HY2 := Lib.hid (HY0.out.after hb2)
        have HS2 := Lib.hid (HS0.out.below (hb2.mono (by have := HY0.out.size2; omega)))
        have hsz1 : w.heap.size + 1 ≤ W1.heap.size := HY0.out.size2
        have hsz2 : w.heap.size + 1 ≤ w2.heap.size := HY2.out.size2
        have hszb : W1.heap.size ≤ w2.heap.size := hb2.size
        generalize hEE : HeadP.bytes x.kind (x.num) false = E at *
        have hmx : ∀ k, k ≤ 200000000 → k ≤ maxLen := fun k hk => by unfold maxLen; omega
        have HMX := Lib.hid hmx
        have d2 : w2.cell? ⟨w.heap.size, 2, none⟩ = some (.slice A x.bs.length c) := by simpa using HY2.out.blk.cell 2
        clear hmx ho2 hb2 HH HH2 hEE
        go_wp2_with first
          | (at_builtin
             refine wpList_append_lst _ rfl (.tmp 29) (.tmp 31) _ (by rfl) W1.heap.size 5 i0 _ 1 Tryd.underlying23 hi0 hz0 hz1 hz2 rfl (.slice A5 E.length c5) E.length (u8s E) (by rfl)
               HO2.out w.heap.size A x.bs.length c (u8s x.bs) (by rfl) (by simp) HS2.out.lst (u8_one x.bs) (HMX.out _ (by omega)) (by omega) hszb ?_
             intro v3 w3 hown3 hg3 hat3
             have HO3 := Lib.hid hown3
             have HB3 := Lib.hid (HB2.out.trans ((Below.refl W1.heap.size w2).grown hg3 hszb (fun q hq => (HO2.out.lt q hq).1)))
             clear hown3 hg3 hat3)
          | fail
        have HO3' : Hid (w3.ownsRow W1.heap.size 5 1 v3 (E ++ x.bs ++ encs (x.sub.take 0)).length (u8s (E ++ x.bs ++ encs (x.sub.take 0)))) := Lib.hid (by simpa [u8s, encs] using HO3.out)
        clear HO3 HO2 d2 HY2 HS2
        clear t0 t1
        go_loopw [4, 5] (fun ov i wr => ∃ (k : Nat), k ≤ x.sub.length ∧ i = .int .i64 k ∧ Hid (wr.ownsRow W1.heap.size 5 1 ov (E ++ x.bs ++ encs (x.sub.take k)).length (u8s (E ++ x.bs ++ encs (x.sub.take k)))) ∧ Hid (Below W1.heap.size W1 wr)) (fun _ i _ => x.sub.length - (intOf i).toNat)
        case atStart => exact ⟨0, by omega, rfl, HO3', HB3⟩
        case round =>
          obtain ⟨k, hk, rfl, HOk, HWk⟩ := hrel
          have HYk := Lib.hid (HY0.out.after HWk.out)
          have hszk : W1.heap.size ≤ wr.heap.size := HWk.out.size
          have g3 : wr.cell? ⟨w.heap.size, 3, none⟩ = some (.slice A' x.sub.length c') := by simpa using HYk.out.blk.cell 3
          by_cases hlt : k < x.sub.length
          · obtain ⟨b, o, A1, cc, A2, cc', rfl, b0, b1, e0, e1, e2, e3, q1, q2, q3, q4, q5, q6, q7, q8, q9⟩ := HYk.out.items.at_ hlt
            have htl := encs_take_le x.sub (k + 1)
            have hsn := encs_snoc x.sub k hlt
            have hsl := congrArg List.length hsn
            rw [List.length_append] at hsl
            have hsl1 := Nat.le_of_eq hsl
            have hsl2 := Nat.le_of_eq hsl.symm
            have hLk : (E ++ x.bs ++ encs (x.sub.take k)).length ≤ E.length + x.bs.length + (encs (x.sub.take k)).length := by simp; omega
            have HSN := Lib.hid hsn
            have CI := Lib.hid (ih x.sub[k] _ wr (by have := deep_at x.sub k hlt; omega) ((ItemV.of q1 q2 q3 q4 q5 q6 q7 q8 q9).more (Nat.le_refl _) (by omega)) (fines_at x.sub k hlt HFS.out) (by have := size_at x.sub k hlt; omega) (by omega))
            have c0 : decide ((k : Int) < (x.sub.length : Int)) = true := decide_eq_true (by omega)
            clear q3 q6 q9 hsn hsl
            go_wp2_with first
              | (go_at_call 20
                 refine CI.out.mono ?_
                 rintro e w4 ⟨A6, c6, rfl, HL4, hb4⟩
                 have HB4 := Lib.hid hb4
                 have HO4 := Lib.hid (own_later HOk.out hb4)
                 have hsz4 := hb4.size
                 clear hb4)
              | (at_builtin
                 refine wpList_append_lst _ rfl (.tmp 40) (.tmp 46) _ (by rfl) W1.heap.size 5 i0 _ 1 Tryd.underlying23 hi0 hz0 hz1 hz2 rfl _ _ _ (by rfl)
                   HO4.out w4.heap.size A6 (enc x.sub[k]).length c6 (u8s (enc x.sub[k])) (by rfl) (by simp) HL4.out (u8_one _) (HMX.out _ (by omega)) (by omega) (by omega) ?_
                 intro v5 w5 hown5 hg5 hat5
                 have HO5 := Lib.hid hown5
                 have HB5 := Lib.hid ((HWk.out.trans (HB4.out.mono hszk)).grown hg5 (by omega) (fun q hq => (HOk.out.lt q hq).1))
                 clear hown5 hg5 hat5)
              | fail
            go_roundw
            case rel => exact ⟨k + 1, by omega, by go_num, Lib.hid (by rw [HSN.out]; simpa [u8s, Nat.add_assoc] using HO5.out), HB5⟩
            case measure => simp [intOf]; omega
          · obtain rfl : k = x.sub.length := by omega
            have c0 : decide ((x.sub.length : Int) < (x.sub.length : Int)) = false := decide_eq_false (by omega)
            have hov := HOk.out
            rw [take_all, ← HE2.out] at hov
            obtain ⟨A6, c6, rfl, _, _, _⟩ := own_slice hov
            have HOV := Lib.hid hov
            clear hov
            go_wp2_with fail
            go_ret
            exact ⟨A6, c6, rfl, Lib.hid (Lst.of_own HOV.out), HYk.out.below⟩
      · have t1 : decide (0 < x.kind) = true := decide_eq_true (by omega)
        have HC := Lib.hid (HCN.out.2.1 (by omega))
        clear k0 k4 hkk
        have hh := HH.out
        rw [HC.out] at hh
        have HH2 := Lib.hid hh
        have hes2 := HES.out
        rw [HC.out] at hes2
        have HE2 := Lib.hid hes2
        have hbl2 := Great.bytes_le x.kind ((x.bs.length : Int)) false
        have hel := congrArg List.length hes2
        rw [List.length_append, List.length_append] at hel
        have hel1 := Nat.le_of_eq hel.symm
        have HY0 := Lib.hid (RefRight.Box.to2 HX.out (.cells #[.int .i64 x.kind, .int .u64 ((x.bs.length : Int)), .bool false] 83))
        have HS0 := Lib.hid (HS.out.alloc (by have := HX.out.size2; omega) (.cells #[.int .i64 x.kind, .int .u64 ((x.bs.length : Int)), .bool false] 83))
        clear hh hes2 hel
        go_wp2_with fail
        generalize (w.alloc (.cells #[.int .i64 x.kind, .int .u64 x.num, .slice A x.bs.length c, .slice A' x.sub.length c'] 31)).alloc (.cells #[.int .i64 x.kind, .int .u64 ((x.bs.length : Int)), .bool false] 83) = W1 at *
        refine (HH2.out W1).mono ?_
        rintro e w2 ⟨A5, c5, rfl, ho2, hb2⟩
        have HO2 := Lib.hid ho2
        have HB2 := Lib.hid hb2
        have HY2 := Lib.hid (HY0.out.after hb2)
        have HS2 := Lib.hid (HS0.out.below (hb2.mono (by have := HY0.out.size2; omega)))
        have hsz1 : w.heap.size + 1 ≤ W1.heap.size := HY0.out.size2
        have hsz2 : w.heap.size + 1 ≤ w2.heap.size := HY2.out.size2
        have hszb : W1.heap.size ≤ w2.heap.size := hb2.size
        generalize hEE : HeadP.bytes x.kind ((x.bs.length : Int)) false = E at *
        have hmx : ∀ k, k ≤ 200000000 → k ≤ maxLen := fun k hk => by unfold maxLen; omega
        have HMX := Lib.hid hmx
        have d2 : w2.cell? ⟨w.heap.size, 2, none⟩ = some (.slice A x.bs.length c) := by simpa using HY2.out.blk.cell 2
        clear hmx ho2 hb2 HH HH2 hEE
        go_wp2_with first
          | (at_builtin
             refine wpList_append_lst _ rfl (.tmp 29) (.tmp 31) _ (by rfl) W1.heap.size 5 i0 _ 1 Tryd.underlying23 hi0 hz0 hz1 hz2 rfl (.slice A5 E.length c5) E.length (u8s E) (by rfl)
               HO2.out w.heap.size A x.bs.length c (u8s x.bs) (by rfl) (by simp) HS2.out.lst (u8_one x.bs) (HMX.out _ (by omega)) (by omega) hszb ?_
             intro v3 w3 hown3 hg3 hat3
             have HO3 := Lib.hid hown3
             have HB3 := Lib.hid (HB2.out.trans ((Below.refl W1.heap.size w2).grown hg3 hszb (fun q hq => (HO2.out.lt q hq).1)))
             clear hown3 hg3 hat3)
          | fail
        have HO3' : Hid (w3.ownsRow W1.heap.size 5 1 v3 (E ++ x.bs ++ encs (x.sub.take 0)).length (u8s (E ++ x.bs ++ encs (x.sub.take 0)))) := Lib.hid (by simpa [u8s, encs] using HO3.out)
        clear HO3 HO2 d2 HY2 HS2
        clear t0 t1
        go_loopw [4, 5] (fun ov i wr => ∃ (k : Nat), k ≤ x.sub.length ∧ i = .int .i64 k ∧ Hid (wr.ownsRow W1.heap.size 5 1 ov (E ++ x.bs ++ encs (x.sub.take k)).length (u8s (E ++ x.bs ++ encs (x.sub.take k)))) ∧ Hid (Below W1.heap.size W1 wr)) (fun _ i _ => x.sub.length - (intOf i).toNat)
        case atStart => exact ⟨0, by omega, rfl, HO3', HB3⟩
        case round =>
          obtain ⟨k, hk, rfl, HOk, HWk⟩ := hrel
          have HYk := Lib.hid (HY0.out.after HWk.out)
          have hszk : W1.heap.size ≤ wr.heap.size := HWk.out.size
          have g3 : wr.cell? ⟨w.heap.size, 3, none⟩ = some (.slice A' x.sub.length c') := by simpa using HYk.out.blk.cell 3
          by_cases hlt : k < x.sub.length
          · obtain ⟨b, o, A1, cc, A2, cc', rfl, b0, b1, e0, e1, e2, e3, q1, q2, q3, q4, q5, q6, q7, q8, q9⟩ := HYk.out.items.at_ hlt
            have htl := encs_take_le x.sub (k + 1)
            have hsn := encs_snoc x.sub k hlt
            have hsl := congrArg List.length hsn
            rw [List.length_append] at hsl
            have hsl1 := Nat.le_of_eq hsl
            have hsl2 := Nat.le_of_eq hsl.symm
            have hLk : (E ++ x.bs ++ encs (x.sub.take k)).length ≤ E.length + x.bs.length + (encs (x.sub.take k)).length := by simp; omega
            have HSN := Lib.hid hsn
            have CI := Lib.hid (ih x.sub[k] _ wr (by have := deep_at x.sub k hlt; omega) ((ItemV.of q1 q2 q3 q4 q5 q6 q7 q8 q9).more (Nat.le_refl _) (by omega)) (fines_at x.sub k hlt HFS.out) (by have := size_at x.sub k hlt; omega) (by omega))
            have c0 : decide ((k : Int) < (x.sub.length : Int)) = true := decide_eq_true (by omega)
            clear q3 q6 q9 hsn hsl
            go_wp2_with first
              | (go_at_call 20
                 refine CI.out.mono ?_
                 rintro e w4 ⟨A6, c6, rfl, HL4, hb4⟩
                 have HB4 := Lib.hid hb4
                 have HO4 := Lib.hid (own_later HOk.out hb4)
                 have hsz4 := hb4.size
                 clear hb4)
              | (at_builtin
                 refine wpList_append_lst _ rfl (.tmp 40) (.tmp 46) _ (by rfl) W1.heap.size 5 i0 _ 1 Tryd.underlying23 hi0 hz0 hz1 hz2 rfl _ _ _ (by rfl)
                   HO4.out w4.heap.size A6 (enc x.sub[k]).length c6 (u8s (enc x.sub[k])) (by rfl) (by simp) HL4.out (u8_one _) (HMX.out _ (by omega)) (by omega) (by omega) ?_
                 intro v5 w5 hown5 hg5 hat5
                 have HO5 := Lib.hid hown5
                 have HB5 := Lib.hid ((HWk.out.trans (HB4.out.mono hszk)).grown hg5 (by omega) (fun q hq => (HOk.out.lt q hq).1))
                 clear hown5 hg5 hat5)
              | fail
            go_roundw
            case rel => exact ⟨k + 1, by omega, by go_num, Lib.hid (by rw [HSN.out]; simpa [u8s, Nat.add_assoc] using HO5.out), HB5⟩
            case measure => simp [intOf]; omega
          · obtain rfl : k = x.sub.length := by omega
            have c0 : decide ((x.sub.length : Int) < (x.sub.length : Int)) = false := decide_eq_false (by omega)
            have hov := HOk.out
            rw [take_all, ← HE2.out] at hov
            obtain ⟨A6, c6, rfl, _, _, _⟩ := own_slice hov
            have HOV := Lib.hid hov
            clear hov
            go_wp2_with fail
            go_ret
            exact ⟨A6, c6, rfl, Lib.hid (Lst.of_own HOV.out), HYk.out.below⟩

theorem refWrite_any (x : Itm) (v : Value) (w : World) (hv : ItemV w 0 w.heap.size x v) (hf : fine x = true) (hs : size x ≤ 100000) (hl : (enc x).length ≤ 100000000) :
    Calls Tryd.prog 20 #[v] w fun e w' => ∃ A c, e = .returned (.slice A (enc x).length c) ∧ Hid (Lst w' w'.heap.size A (u8s (enc x))) ∧ Below w.heap.size w w' :=
  refWrite_rec (deep x) x v w (Nat.le_refl _) hv hf hs hl
end Go.Proofs.YtoieadbifhealaaDoor.RefWrite
