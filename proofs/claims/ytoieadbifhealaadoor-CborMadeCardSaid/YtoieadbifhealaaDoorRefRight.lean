/- The contracts of ref03's Deep, Size, fine, Right. -/
import Derived.Test.YtoieadbifhealaaDoorCbWrite
import Derived.Test.YtoieadbifhealaaDoorRefU8V
namespace Go.Proofs.YtoieadbifhealaaDoor.RefRight
open Go.RowKit Wd Cb CbCopy CbRight

/-- The box that a call lays. -/
structure Box (w W0 : World) (x : Itm) (A A' : Option Addr) (c c' : Nat) : Prop where
  blk : Blk W0 w.heap.size 31 #[.int .i64 x.kind, .int .u64 x.num, .slice A x.bs.length c, .slice A' x.sub.length c']
  below : Below w.heap.size w W0
  items : ItemsV W0 0 w.heap.size x.sub A'
  size1 : W0.heap.size ≤ w.heap.size + 1
  size2 : w.heap.size + 1 ≤ W0.heap.size
  cap : c' ≤ 9223372036854775807
theorem box_of {w : World} {x : Itm} {v : Value} (hv : ItemV w 0 w.heap.size x v) : ∃ A c A' c', v = .agg #[.int .i64 x.kind, .int .u64 x.num, .slice A x.bs.length c, .slice A' x.sub.length c'] ∧
    Box w (w.alloc (.cells #[.int .i64 x.kind, .int .u64 x.num, .slice A x.bs.length c, .slice A' x.sub.length c'] 31)) x A A' c c' ∧ x.bs.length ≤ c ∧ c ≤ maxLen ∧ Seg w 0 w.heap.size A (u8s x.bs) ∧ St.bts x.bs ∧ x.sub.length ≤ c' := by
  obtain ⟨A, c, A', c', rfl, hk, hn, hb, h1, h2, h3, h4, h5, h6⟩ := hv.open_
  have hb0 := (Below.refl w.heap.size w).alloc (Nat.le_refl _) (.cells #[.int .i64 x.kind, .int .u64 x.num, .slice A x.bs.length c, .slice A' x.sub.length c'] 31)
  exact ⟨A, c, A', c', rfl, ⟨Blk.new _ _ _, hb0, h6.below hb0, by simp, by simp, by unfold maxLen at h5; omega⟩, h1, h2, h3, hb, h4⟩
theorem Box.at_ {w W0 wr : World} {x : Itm} {A A' : Option Addr} {c c' : Nat} (h : Box w W0 x A A' c c') (hW : Below W0.heap.size W0 wr) : wr.cell? ⟨w.heap.size, 3, none⟩ = some (.slice A' x.sub.length c') :=
  (hW.cell (p := ⟨w.heap.size, 3, none⟩) (by show w.heap.size < _; have := h.size2; omega)).trans (by simpa using h.blk.cell 3)
/-- A part of the item that is boxed. -/
theorem Box.part {w W0 wr : World} {x : Itm} {A A' : Option Addr} {c c' : Nat} (h : Box w W0 x A A' c c') (hW : Below W0.heap.size W0 wr) {k : Nat} (hk : k < x.sub.length) : ∃ b o A1 cc A2 cc', A' = some ⟨b, o, none⟩ ∧
    wr.cell? ⟨b, o + k * 4, none⟩ = some (.int .i64 x.sub[k].kind) ∧ wr.cell? ⟨b, o + k * 4 + 1, none⟩ = some (.int .u64 x.sub[k].num) ∧ wr.cell? ⟨b, o + k * 4 + 2, none⟩ = some (.slice A1 x.sub[k].bs.length cc) ∧ wr.cell? ⟨b, o + k * 4 + 3, none⟩ = some (.slice A2 x.sub[k].sub.length cc') ∧
    ItemV wr 0 wr.heap.size x.sub[k] (.agg #[.int .i64 x.sub[k].kind, .int .u64 x.sub[k].num, .slice A1 x.sub[k].bs.length cc, .slice A2 x.sub[k].sub.length cc']) := by
  have h2 := h.size2
  have hs := hW.size
  obtain ⟨b, o, A1, cc, A2, cc', ea, _, _, e0, e1, e2, e3, q1, q2, q3, q4, q5, q6, q7, q8, q9⟩ := (h.items.below (hW.mono (by omega))).at_ hk
  exact ⟨b, o, A1, cc, A2, cc', ea, e0, e1, e2, e3, (ItemV.of q1 q2 q3 q4 q5 q6 q7 q8 q9).more (Nat.le_refl _) (by omega)⟩

set_option maxRecDepth 100000 in
set_option maxHeartbeats 2000000 in
theorem deep_any (N : Nat) : ∀ (x : Itm) (v : Value) (m : Int) (w : World), deep x ≤ N → ItemV w 0 w.heap.size x v → 0 ≤ m → m ≤ 100 → size x ≤ 100000 →
    Calls Tryd.prog 46 #[v, .int .i64 m] w fun e w' => ∃ r : Int, e = .returned (.int .i64 r) ∧ Below w.heap.size w w' ∧ r ≤ m + 1 ∧ r ≤ deep x ∧ (m + 1 ≤ r ∨ (deep x : Int) ≤ r) := by
  induction N with
  | zero => intro x v m w hN; have := deep_pos x; omega
  | succ N ih =>
    intro x v m w hN hv hm0 hm1 hsz
    obtain ⟨A, c, A', c', rfl, hbox, h1, h2, h3, hb, h4⟩ := box_of hv
    have hds := Nat.le_of_eq (deep_sub x)
    have hds' := Nat.le_of_eq (deep_sub x).symm
    have hss' := Nat.le_of_eq (size_sub x).symm
    have hlx := length_le_sizes x.sub
    have HX := Lib.hid hbox
    have hcap := hbox.cap
    clear hv h3 hbox
    go_enter Tryd.func46, Tryd.ntmps46
    go_wp2_with fail
    generalize w.alloc (.cells #[.int .i64 x.kind, .int .u64 x.num, .slice A x.bs.length c, .slice A' x.sub.length c'] 31) = W0 at *
    go_loopw [5, 6, 7] (fun n i _ wr => ∃ (k : Nat) (q : Int), k ≤ x.sub.length ∧ i = .int .i64 k ∧ n = .int .i64 q ∧ 1 ≤ q ∧ q ≤ m + 1 ∧ q ≤ 1 + deeps (x.sub.take k) ∧ (m + 1 ≤ q ∨ 1 + (deeps (x.sub.take k) : Int) ≤ q) ∧ Hid (Below W0.heap.size W0 wr)) (fun _ i _ _ => x.sub.length - (intOf i).toNat)
    case atStart => exact ⟨0, 1, by omega, rfl, rfl, by omega, by omega, by omega, .inr (by simp [deeps]), Lib.hid (Below.refl _ _)⟩
    case round =>
      obtain ⟨k, q, hk, rfl, rfl, hq0, hq1, hq2, hq3, HW⟩ := hrel
      have g3 := HX.out.at_ HW.out
      have htl := deeps_take_le x.sub k
      by_cases hlt : k < x.sub.length
      · by_cases hm : 0 < m
        · obtain ⟨b, o, B1, cc, B2, cc', rfl, e0, e1, e2, e3, hvp⟩ := HX.out.part HW.out hlt
          have hsn := deeps_snoc x.sub k hlt
          have hs1 : deeps (x.sub.take (k + 1)) ≤ max (deeps (x.sub.take k)) (deep x.sub[k]) := Nat.le_of_eq hsn
          have hs2 : max (deeps (x.sub.take k)) (deep x.sub[k]) ≤ deeps (x.sub.take (k + 1)) := Nat.le_of_eq hsn.symm
          clear hsn
          have CI := Lib.hid (ih x.sub[k] _ (m - 1) wr (by have := deep_at x.sub k hlt; omega) hvp (by omega) (by omega) (by have := size_at x.sub k hlt; omega))
          have c0 : decide ((k : Int) < (x.sub.length : Int)) = true := decide_eq_true (by omega)
          have c1 : decide (0 < m) = true := decide_eq_true hm
          clear hvp
          go_wp2_with fail
          refine CI.out.mono ?_
          rintro e w3 ⟨r, rfl, hb3, hr1, hr2, hr3⟩
          have HW3 := Lib.hid (below_next HW.out HW.out.size hb3)
          clear hb3 CI e0 e1 e2 e3 g3 c0 c1
          by_cases hgt : q < 1 + r
          · have c2 : decide (q < 1 + r) = true := decide_eq_true hgt
            go_wp2_with fail
            go_roundw
            case rel => exact ⟨k + 1, 1 + r, by omega, by go_num, rfl, by omega, by omega, by omega, by omega, HW3⟩
            case measure => simp [intOf]; omega
          · have c2 : decide (q < 1 + r) = false := decide_eq_false hgt
            go_wp2_with fail
            go_roundw
            case rel => exact ⟨k + 1, q, by omega, by go_num, rfl, by omega, by omega, by omega, by omega, HW3⟩
            case measure => simp [intOf]; omega
        · have c0 : decide ((k : Int) < (x.sub.length : Int)) = true := decide_eq_true (by omega)
          have c1 : decide (0 < m) = false := decide_eq_false hm
          go_wp2_with fail
          go_ret
          exact ⟨q, rfl, below_next HX.out.below (by have := HX.out.size2; omega) HW.out, by omega, by omega, .inl (by omega)⟩
      · obtain rfl : k = x.sub.length := by omega
        have c0 : decide ((x.sub.length : Int) < (x.sub.length : Int)) = false := decide_eq_false (by omega)
        rw [take_all] at hq2 hq3
        go_wp2_with fail
        go_ret
        exact ⟨q, rfl, below_next HX.out.below (by have := HX.out.size2; omega) HW.out, by omega, by omega, by omega⟩

set_option maxRecDepth 100000 in
set_option maxHeartbeats 2000000 in
theorem size_any (N : Nat) : ∀ (x : Itm) (v : Value) (m : Int) (w : World), deep x ≤ N → ItemV w 0 w.heap.size x v → 0 ≤ m → m ≤ 1000 → size x ≤ 100000 →
    Calls Tryd.prog 47 #[v, .int .i64 m] w fun e w' => ∃ r : Int, e = .returned (.int .i64 r) ∧ Below w.heap.size w w' ∧ 1 ≤ r ∧ r ≤ size x ∧ (m < r ∨ (size x : Int) ≤ r) := by
  induction N with
  | zero => intro x v m w hN; have := deep_pos x; omega
  | succ N ih =>
    intro x v m w hN hv hm0 hm1 hsz
    obtain ⟨A, c, A', c', rfl, hbox, h1, h2, h3, hb, h4⟩ := box_of hv
    have hds := Nat.le_of_eq (deep_sub x)
    have hds' := Nat.le_of_eq (deep_sub x).symm
    have hss := Nat.le_of_eq (size_sub x)
    have hss' := Nat.le_of_eq (size_sub x).symm
    have hlx := length_le_sizes x.sub
    have HX := Lib.hid hbox
    have hcap := hbox.cap
    clear hv h3 hbox
    go_enter Tryd.func47, Tryd.ntmps47
    go_wp2_with fail
    generalize w.alloc (.cells #[.int .i64 x.kind, .int .u64 x.num, .slice A x.bs.length c, .slice A' x.sub.length c'] 31) = W0 at *
    go_loopw [5, 6] (fun n i wr => ∃ (k : Nat) (q : Int), k ≤ x.sub.length ∧ i = .int .i64 k ∧ n = .int .i64 q ∧ 1 ≤ q ∧ q ≤ 1 + sizes (x.sub.take k) ∧ (m < q ∨ 1 + (sizes (x.sub.take k) : Int) ≤ q) ∧ Hid (Below W0.heap.size W0 wr)) (fun _ i _ => x.sub.length - (intOf i).toNat)
    case atStart => exact ⟨0, 1, by omega, rfl, rfl, by omega, by omega, .inr (by simp [sizes]), Lib.hid (Below.refl _ _)⟩
    case round =>
      obtain ⟨k, q, hk, rfl, rfl, hq0, hq2, hq3, HW⟩ := hrel
      have g3 := HX.out.at_ HW.out
      have htl := sizes_take_le x.sub k
      by_cases hlt : k < x.sub.length
      · by_cases hm : q ≤ m
        · obtain ⟨b, o, B1, cc, B2, cc', rfl, e0, e1, e2, e3, hvp⟩ := HX.out.part HW.out hlt
          have hs1 := Nat.le_of_eq (sizes_snoc x.sub k hlt)
          have hs2 := Nat.le_of_eq (sizes_snoc x.sub k hlt).symm
          have htl' := sizes_take_le x.sub (k + 1)
          have CI := Lib.hid (ih x.sub[k] _ m wr (by have := deep_at x.sub k hlt; omega) hvp (by omega) (by omega) (by have := size_at x.sub k hlt; omega))
          have c0 : decide ((k : Int) < (x.sub.length : Int)) = true := decide_eq_true (by omega)
          have c1 : decide (q ≤ m) = true := decide_eq_true hm
          clear hvp
          go_wp2_with fail
          refine CI.out.mono ?_
          rintro e w3 ⟨r, rfl, hb3, hr1, hr2, hr3⟩
          have HW3 := Lib.hid (below_next HW.out HW.out.size hb3)
          clear hb3 CI e0 e1 e2 e3 g3 c0 c1
          go_wp2_with fail
          go_roundw
          case rel => exact ⟨k + 1, q + r, by omega, by go_num, by first | rfl | (congr 1; go_num), by omega, by omega, by omega, HW3⟩
          case measure => simp [intOf]; omega
        · have c0 : decide ((k : Int) < (x.sub.length : Int)) = true := decide_eq_true (by omega)
          have c1 : decide (q ≤ m) = false := decide_eq_false hm
          go_wp2_with fail
          go_ret
          exact ⟨q, rfl, below_next HX.out.below (by have := HX.out.size2; omega) HW.out, by omega, by omega, .inl (by omega)⟩
      · obtain rfl : k = x.sub.length := by omega
        have c0 : decide ((x.sub.length : Int) < (x.sub.length : Int)) = false := decide_eq_false (by omega)
        rw [take_all] at hq2 hq3
        go_wp2_with fail
        go_ret
        exact ⟨q, rfl, below_next HX.out.below (by have := HX.out.size2; omega) HW.out, by omega, by omega, by omega⟩

theorem fines_nil (l : List Itm) (h : l.length = 0) : fines l = true := by rw [List.eq_nil_of_length_eq_zero h]; rfl
theorem fine0 (x : Itm) (h : x.kind = 0) : fine x = (x.bs.length == 0 && x.sub.length == 0) := by
  rw [fine_sub, kindFit, if_pos h]
  by_cases hl : x.sub.length = 0
  · rw [fines_nil _ hl, Bool.and_true]
  · simp [hl]
theorem fine2 (x : Itm) (h : x.kind = 2) : fine x = (x.num == 0 && x.sub.length == 0) := by
  rw [fine_sub, kindFit, if_neg (by omega), if_pos h]
  by_cases hl : x.sub.length = 0
  · rw [fines_nil _ hl, Bool.and_true]
  · simp [hl]
theorem fine3 (x : Itm) (h : x.kind = 3) : fine x = (x.num == 0 && x.sub.length == 0 && U8.utf8 x.bs) := by
  rw [fine_sub, kindFit, if_neg (by omega), if_neg (by omega), if_pos h]
  by_cases hl : x.sub.length = 0
  · rw [fines_nil _ hl, Bool.and_true]
  · simp [hl]
theorem fine4 (x : Itm) (h : x.kind = 4) : fine x = (x.num == 0 && x.bs.length == 0 && fines x.sub) := by
  rw [fine_sub, kindFit, if_neg (by omega), if_neg (by omega), if_neg (by omega), if_pos h]
theorem fine9 (x : Itm) (h0 : x.kind ≠ 0) (h2 : x.kind ≠ 2) (h3 : x.kind ≠ 3) (h4 : x.kind ≠ 4) : fine x = false := by
  rw [fine_sub, kindFit, if_neg h0, if_neg h2, if_neg h3, if_neg h4]
  rfl

set_option maxRecDepth 100000 in
set_option maxHeartbeats 4000000 in
theorem fine_any (N : Nat) : ∀ (x : Itm) (v : Value) (w : World), deep x ≤ N → ItemV w 0 w.heap.size x v → size x ≤ 100000 →
    Calls Tryd.prog 48 #[v] w fun e w' => e = .returned (.bool (fine x)) ∧ Below w.heap.size w w' := by
  induction N with
  | zero => intro x v w hN; have := deep_pos x; omega
  | succ N ih =>
    intro x v w hN hv hsz
    obtain ⟨A, c, A', c', rfl, hbox, h1, h2, h3, hb, h4⟩ := box_of hv
    have hds := Nat.le_of_eq (deep_sub x)
    have hds' := Nat.le_of_eq (deep_sub x).symm
    have hss' := Nat.le_of_eq (size_sub x).symm
    have hlx := length_le_sizes x.sub
    have HX := Lib.hid hbox
    have hcap := hbox.cap
    have CV := Lib.hid (RefU8V.valid_any A w.heap.size c x.bs (w.alloc (.cells #[.int .i64 x.kind, .int .u64 x.num, .slice A x.bs.length c, .slice A' x.sub.length c'] 31)) (h3.below hbox.below).lst hb h1 h2)
    clear hv h3 hbox h2 hb
    go_enter Tryd.func48, Tryd.ntmps48
    by_cases k0 : x.kind = 0
    · have F := Lib.hid (fine0 x k0)
      have t0 : (x.kind == 0) = true := by simpa using k0
      clear k0
      by_cases hB : x.bs.length = 0
      · have t1 : ((x.bs.length : Int) == 0) = true := by simp [hB]
        by_cases hL : x.sub.length = 0
        · have t2 : ((x.sub.length : Int) == 0) = true := by simp [hL]
          have G := Lib.hid (And.intro hB hL)
          clear hB hL
          go_wp2_with fail
          go_ret
          exact ⟨ret_bool (by rw [F.out, G.out.1, G.out.2]; rfl), HX.out.below⟩
        · have t2 : ((x.sub.length : Int) == 0) = false := by simp only [beq_eq_false_iff_ne, ne_eq]; omega
          have G := Lib.hid hL
          clear hB hL
          go_wp2_with fail
          go_ret
          exact ⟨ret_bool (by rw [F.out, beq_eq_false_iff_ne.2 G.out]; simp), HX.out.below⟩
      · have t1 : ((x.bs.length : Int) == 0) = false := by simp only [beq_eq_false_iff_ne, ne_eq]; omega
        have G := Lib.hid hB
        clear hB
        go_wp2_with fail
        go_ret
        exact ⟨ret_bool (by rw [F.out, beq_eq_false_iff_ne.2 G.out]; simp), HX.out.below⟩
    · have t0 : (x.kind == 0) = false := by simpa using k0
      by_cases k2 : x.kind = 2
      · have F := Lib.hid (fine2 x k2)
        have t1 : (x.kind == 2) = true := by simpa using k2
        clear k2 k0
        by_cases hB : x.num = 0
        · have t2 : (x.num == 0) = true := by simpa using hB
          by_cases hL : x.sub.length = 0
          · have t3 : ((x.sub.length : Int) == 0) = true := by simp [hL]
            have G := Lib.hid (And.intro hB hL)
            clear hB hL
            go_wp2_with fail
            go_ret
            exact ⟨ret_bool (by rw [F.out, G.out.1, G.out.2]; rfl), HX.out.below⟩
          · have t3 : ((x.sub.length : Int) == 0) = false := by simp only [beq_eq_false_iff_ne, ne_eq]; omega
            have G := Lib.hid hL
            clear hB hL
            go_wp2_with fail
            go_ret
            exact ⟨ret_bool (by rw [F.out, beq_eq_false_iff_ne.2 G.out]; simp), HX.out.below⟩
        · have t2 : (x.num == 0) = false := by simpa using hB
          have G := Lib.hid t2
          clear hB
          go_wp2_with fail
          go_ret
          exact ⟨ret_bool (by rw [F.out, G.out]; simp), HX.out.below⟩
      · have t1 : (x.kind == 2) = false := by simpa using k2
        by_cases k3 : x.kind = 3
        · have F := Lib.hid (fine3 x k3)
          have t2 : (x.kind == 3) = true := by simpa using k3
          clear k2 k0 k3
          by_cases hB : x.num = 0
          · have t3 : (x.num == 0) = true := by simpa using hB
            by_cases hL : x.sub.length = 0
            · have t4 : ((x.sub.length : Int) == 0) = true := by simp [hL]
              have G := Lib.hid (And.intro hB hL)
              clear hB hL
              go_wp2_with fail
              refine CV.out.mono ?_
              rintro e w3 ⟨rfl, rfl⟩
              go_wp2_with fail
              go_ret
              exact ⟨ret_bool (by rw [F.out, G.out.1, G.out.2]; simp), HX.out.below⟩
            · have t4 : ((x.sub.length : Int) == 0) = false := by simp only [beq_eq_false_iff_ne, ne_eq]; omega
              have G := Lib.hid hL
              clear hB hL
              go_wp2_with fail
              go_ret
              exact ⟨ret_bool (by rw [F.out, beq_eq_false_iff_ne.2 G.out]; simp), HX.out.below⟩
          · have t3 : (x.num == 0) = false := by simpa using hB
            have G := Lib.hid t3
            clear hB
            go_wp2_with fail
            go_ret
            exact ⟨ret_bool (by rw [F.out, G.out]; simp), HX.out.below⟩
        · have t2 : (x.kind == 3) = false := by simpa using k3
          by_cases k4 : x.kind = 4
          · have F := Lib.hid (fine4 x k4)
            have t3 : (x.kind == 4) = true := by simpa using k4
            clear k2 k0 k3 k4
            by_cases hB : x.num = 0
            · have t4 : (x.num != 0) = false := by simpa using hB
              by_cases hL : x.bs.length = 0
              · have t5 : ((x.bs.length : Int) != 0) = false := by simp [hL]
                have G := Lib.hid (And.intro hB hL)
                clear hB hL
                go_wp2_with fail
                generalize w.alloc (.cells #[.int .i64 x.kind, .int .u64 x.num, .slice A x.bs.length c, .slice A' x.sub.length c'] 31) = W0 at *
                clear t0 t1 t2 t3 t4 t5 CV
                go_loopw [3] (fun i wr => ∃ (k : Nat), k ≤ x.sub.length ∧ i = .int .i64 k ∧ Hid (fines (x.sub.take k) = true) ∧ Hid (Below W0.heap.size W0 wr)) (fun i _ => x.sub.length - (intOf i).toNat)
                case atStart => exact ⟨0, by omega, rfl, Lib.hid rfl, Lib.hid (Below.refl _ _)⟩
                case round =>
                  obtain ⟨k, hk, rfl, HFk, HW⟩ := hrel
                  have g3 := HX.out.at_ HW.out
                  by_cases hlt : k < x.sub.length
                  · obtain ⟨b, o, B1, cc, B2, cc', rfl, e0, e1, e2, e3, hvp⟩ := HX.out.part HW.out hlt
                    have CI := Lib.hid (ih x.sub[k] _ wr (by have := deep_at x.sub k hlt; omega) hvp (by have := size_at x.sub k hlt; omega))
                    have HSN := Lib.hid (fines_snoc x.sub k hlt)
                    have HNO := Lib.hid (fines_no x.sub k hlt)
                    have c0 : decide ((k : Int) < (x.sub.length : Int)) = true := decide_eq_true (by omega)
                    clear hvp
                    go_wp2_with fail
                    refine CI.out.mono ?_
                    rintro e w3 ⟨rfl, hb3⟩
                    have HW3 := Lib.hid (below_next HW.out HW.out.size hb3)
                    clear hb3 CI e0 e1 e2 e3 g3 c0
                    cases hf : fine x.sub[k]
                    · have HE := Lib.hid (HNO.out hf)
                      clear hf
                      go_wp2_with fail
                      go_ret
                      exact ⟨ret_bool (by rw [F.out, HE.out]; simp), below_next HX.out.below (by have := HX.out.size2; omega) HW3.out⟩
                    · have HE : Hid (fines (x.sub.take (k + 1)) = true) := Lib.hid (by rw [HSN.out, HFk.out, hf]; rfl)
                      clear hf
                      go_wp2_with fail
                      go_roundw
                      case rel => exact ⟨k + 1, by omega, by go_num, HE, HW3⟩
                      case measure => simp [intOf]; omega
                  · obtain rfl : k = x.sub.length := by omega
                    have hfk := HFk.out
                    rw [take_all] at hfk
                    have HE := Lib.hid hfk
                    have c0 : decide ((x.sub.length : Int) < (x.sub.length : Int)) = false := decide_eq_false (by omega)
                    clear hfk
                    go_wp2_with fail
                    go_ret
                    exact ⟨ret_bool (by rw [F.out, G.out.1, G.out.2, HE.out]; rfl), below_next HX.out.below (by have := HX.out.size2; omega) HW.out⟩
              · have t5 : ((x.bs.length : Int) != 0) = true := by simp only [bne_iff_ne, ne_eq]; omega
                have G := Lib.hid hL
                clear hB hL
                go_wp2_with fail
                go_ret
                exact ⟨ret_bool (by rw [F.out, beq_eq_false_iff_ne.2 G.out]; simp), HX.out.below⟩
            · have t4 : (x.num != 0) = true := by simpa using hB
              have t4' : (x.num == 0) = false := by simpa using hB
              have G := Lib.hid t4'
              clear hB t4'
              go_wp2_with fail
              go_ret
              exact ⟨ret_bool (by rw [F.out, G.out]; simp), HX.out.below⟩
          · have t3 : (x.kind == 4) = false := by simpa using k4
            have F := Lib.hid (fine9 x k0 k2 k3 k4)
            clear k0 k2 k3 k4
            go_wp2_with fail
            go_ret
            exact ⟨ret_bool F.out.symm, HX.out.below⟩

set_option maxRecDepth 100000 in
set_option maxHeartbeats 2000000 in
theorem refRight_any (x : Itm) (v : Value) (w : World) (hv : ItemV w 0 w.heap.size x v) (hsz : size x ≤ 100000) :
    Calls Tryd.prog 17 #[v] w fun e w' => e = .returned (.bool (right x)) ∧ Below w.heap.size w w' := by
  obtain ⟨A, c, A', c', rfl, hbox, -⟩ := box_of hv
  have hb0 := hbox.below
  have HV := Lib.hid ((hv.below hb0).more (Nat.le_refl _) (Nat.le_trans (Nat.le_succ _) hbox.size2))
  have HX := Lib.hid hbox
  clear hv hbox hb0
  go_enter Tryd.func17, Tryd.ntmps17
  go_wp2_with fail
  generalize w.alloc (.cells #[.int .i64 x.kind, .int .u64 x.num, .slice A x.bs.length c, .slice A' x.sub.length c'] 31) = W0 at *
  refine (deep_any (deep x) x _ 7 W0 (Nat.le_refl _) HV.out (by omega) (by omega) hsz).mono ?_
  rintro e w1 ⟨r1, rfl, hb1, r11, r12, r13⟩
  have HW1 := Lib.hid hb1
  have HV1 := Lib.hid ((HV.out.below hb1).more (Nat.le_refl _) hb1.size)
  have hz1 := hb1.size
  have g := HX.out.blk.below hb1 HX.out.blk.lt
  have g0 : w1.cell? ⟨w.heap.size, 0, none⟩ = some (.int .i64 x.kind) := by simpa using g.cell 0
  have g1 : w1.cell? ⟨w.heap.size, 1, none⟩ = some (.int .u64 x.num) := by simpa using g.cell 1
  have g2 : w1.cell? ⟨w.heap.size, 2, none⟩ = some (.slice A x.bs.length c) := by simpa using g.cell 2
  have g3 : w1.cell? ⟨w.heap.size, 3, none⟩ = some (.slice A' x.sub.length c') := by simpa using g.cell 3
  have G := Lib.hid g
  clear hb1 g HV
  by_cases hd : deep x ≤ 6
  · have t0 : decide (r1 ≤ 6) = true := decide_eq_true (by omega)
    go_wp2_with fail
    refine (size_any (deep x) x _ 257 w1 (Nat.le_refl _) HV1.out (by omega) (by omega) hsz).mono ?_
    rintro e w2 ⟨r2, rfl, hb2, r21, r22, r23⟩
    have HW2 := Lib.hid (below_next HW1.out hz1 hb2)
    have HV2 := Lib.hid ((HV1.out.below hb2).more (Nat.le_refl _) hb2.size)
    have g := G.out.below hb2 G.out.lt
    have hz2 := hb2.size
    clear hb2 g0 g1 g2 g3
    have g0 : w2.cell? ⟨w.heap.size, 0, none⟩ = some (.int .i64 x.kind) := by simpa using g.cell 0
    have g1 : w2.cell? ⟨w.heap.size, 1, none⟩ = some (.int .u64 x.num) := by simpa using g.cell 1
    have g2 : w2.cell? ⟨w.heap.size, 2, none⟩ = some (.slice A x.bs.length c) := by simpa using g.cell 2
    have g3 : w2.cell? ⟨w.heap.size, 3, none⟩ = some (.slice A' x.sub.length c') := by simpa using g.cell 3
    clear g
    by_cases hs : size x ≤ 256
    · have t1 : decide (r2 ≤ 256) = true := decide_eq_true (by omega)
      go_wp2_with fail
      refine (fine_any (deep x) x _ w2 (Nat.le_refl _) HV2.out hsz).mono ?_
      rintro e w3 ⟨rfl, hb3⟩
      have HW3 := Lib.hid (below_next HW2.out (by omega) hb3)
      clear hb3
      go_wp2_with fail
      go_ret
      exact ⟨ret_bool (by unfold right; rw [decide_eq_true hd, decide_eq_true hs]; simp), below_next HX.out.below (by have := HX.out.size2; omega) HW3.out⟩
    · have t1 : decide (r2 ≤ 256) = false := decide_eq_false (by omega)
      go_wp2_with fail
      go_ret
      exact ⟨ret_bool (by unfold right; rw [decide_eq_false hs]; simp), below_next HX.out.below (by have := HX.out.size2; omega) HW2.out⟩
  · have t0 : decide (r1 ≤ 6) = false := decide_eq_false (by omega)
    go_wp2_with fail
    go_ret
    exact ⟨ret_bool (by unfold right; rw [decide_eq_false hd]; simp), below_next HX.out.below (by have := HX.out.size2; omega) HW1.out⟩
end Go.Proofs.YtoieadbifhealaaDoor.RefRight
