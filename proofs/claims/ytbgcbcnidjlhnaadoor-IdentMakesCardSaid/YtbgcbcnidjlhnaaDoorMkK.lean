/- The makers of layer 5: the contract of Keep; those of a maker that no call made. -/
import Derived.Test.YtbgcbcnidjlhnaaDoorZm6
import Derived.Deep.RegionHeld3
namespace Go.Proofs.YtbgcbcnidjlhnaaDoor.Eid
open Go.RowKit Wd Cb
attribute [local go_sem ↓ high] Eid.run_nm

theorem set8_blk {w : World} {g : Nat} {t : TypeId} {a0 b0 c0 d0 e0 f0 k0 l : Value} (h : Blk w g t #[a0, b0, c0, d0, e0, f0, k0, l]) (a b c d e f k : Value) : Blk (set7 w g a b c d e f k) g t #[a, b, c, d, e, f, k, l] := by
  simpa using ((((((h.set_ 0 a).set_ 1 b).set_ 2 c).set_ 3 d).set_ 4 e).set_ 5 f).set_ 6 k
theorem only_set7g {a w : World} {b : Nat} (h : a.grownBy w (some b)) (x y z u v s t : Value) : a.grownBy (set7 w b x y z u v s t) (some b) :=
  only_set (only_set (only_set (only_set (only_set (only_set (only_set h (p := ⟨b, 0, none⟩) rfl x) (p := ⟨b, 1, none⟩) rfl y) (p := ⟨b, 2, none⟩) rfl z) (p := ⟨b, 3, none⟩) rfl u) (p := ⟨b, 4, none⟩) rfl v) (p := ⟨b, 5, none⟩) rfl s) (p := ⟨b, 6, none⟩) rfl t
/-- What a maker says that is to keep a number. -/
def ikeep (x y : Id) : Int := if iright y = false then 1 else if nmEq y.src x.src = false then 1 else if ils x y = false then 7 else 0
/-- Its last number behind it. -/
def kv (x y : Id) : Id := if ikeep x y = 0 then y else x

set_option maxRecDepth 100000 in
set_option maxHeartbeats 4000000 in
theorem keep_any (g : Nat) (x y : Id) (w : World) (h : Mk w g x true) (hy : y.ok) : Calls Tryd.prog 30 #[.pointer (some ⟨g, 0, none⟩), y.val] w fun e w' =>
    e = .returned (.int .i64 (ikeep x y)) ∧ Mk w' g (kv x y) true ∧ w.grownBy w' (some g) := by
  have CR := Lib.hid (fun w' => iright_any y hy w')
  have CA := Lib.hid (fun w' => iahead_any x y w')
  have HKE := Lib.hid (show ikeep x y = if iright y = false then 1 else if nmEq y.src x.src = false then 1 else if ils x y = false then 7 else 0 from rfl)
  have HKV := Lib.hid (show kv x y = if ikeep x y = 0 then y else x from rfl)
  have HB := Lib.hid ((Below.refl w.heap.size w).alloc (Nat.le_refl _) (.cells y.cells 26))
  have HO := Lib.hid (only_alloc (only_below (Below.refl w.heap.size w)) (r := some g) (.cells y.cells 26))
  have HK := Lib.hid (h.next HB.out)
  have HY := Lib.hid (Blk.new w 26 y.cells)
  have HNE := Lib.hid (show g ≠ w.heap.size from Nat.ne_of_lt h.lt)
  clear h hy
  have CN := Lib.hid (fun W hk => none_any g x true W hk)
  generalize ikeep x y = er at *
  generalize kv x y = P at *
  generalize iright y = r at *
  generalize ils x y = il at *
  obtain ⟨⟨i, n, s, hh, d⟩, t, q⟩ := x
  obtain ⟨⟨i2, n2, s2, h2, d2⟩, t2, q2⟩ := y
  generalize hq : nmEq ⟨i2, n2, s2, h2, d2⟩ ⟨i, n, s, hh, d⟩ = eq at *
  have HQ := Lib.hid hq
  clear hq
  go_enter Tryd.func30, Tryd.ntmps30
  go_upto_region 1 with (fail)
  generalize w.alloc (.cells #[.bool i2, .int .u64 n2, .int .u64 s2, .string h2, .string d2, .int .u64 t2, .int .u64 q2] 26) = W at *
  go_wp2_with fail
  refine (CN.out _ HK.out).mono ?_
  rintro e w1 ⟨rfl, rfl⟩
  go_upto_region 3 with (fail)
  have HBd := Lib.hid (Below.refl w1.heap.size w1).drew
  have HP := Lib.hid (fun (W' : World) (hW : Below w1.heap.size w1 W') => And.intro (cells7 (HY.out.next hW)) (cells8 (HK.out.next hW)))
  have HX := Lib.hid (show True from trivial)
  cases r
  · have HF := Lib.hid (show er = 1 by rw [HKE.out, if_pos rfl])
    have HG := Lib.hid (show P = ⟨⟨i, n, s, hh, d⟩, t, q⟩ by rw [HKV.out, HF.out]; rfl)
    refine wp_region_held_drew (S := (fun w' => (w'.cell? ⟨w.heap.size, 0, none⟩ = some (.bool i2) ∧ w'.cell? ⟨w.heap.size, 1, none⟩ = some (.int .u64 n2) ∧ w'.cell? ⟨w.heap.size, 2, none⟩ = some (.int .u64 s2) ∧ w'.cell? ⟨w.heap.size, 3, none⟩ = some (.string h2) ∧ w'.cell? ⟨w.heap.size, 4, none⟩ = some (.string d2) ∧ w'.cell? ⟨w.heap.size, 5, none⟩ = some (.int .u64 t2) ∧ w'.cell? ⟨w.heap.size, 6, none⟩ = some (.int .u64 q2)) ∧ (w'.cell? ⟨g, 0, none⟩ = some (.bool i) ∧ w'.cell? ⟨g, 1, none⟩ = some (.int .u64 n) ∧ w'.cell? ⟨g, 2, none⟩ = some (.int .u64 s) ∧ w'.cell? ⟨g, 3, none⟩ = some (.string hh) ∧ w'.cell? ⟨g, 4, none⟩ = some (.string d) ∧ w'.cell? ⟨g, 5, none⟩ = some (.int .u64 t) ∧ w'.cell? ⟨g, 6, none⟩ = some (.int .u64 q) ∧ w'.cell? ⟨g, 7, none⟩ = some (.bool true)))) (by kernel_rfl) (HP.out _ HBd.out) (fun hHeld => ?_)
    first
    | (refine wpAnyH_take (i := 0) (oi := ({ dst := some 9, op := Op.load 26 (Operand.tmp 3), type := 26, pos := "ident.go:110", after := #[], guard := none })) (v := ?_) rfl (by kernel_rfl) (by kernel_rfl) (by kernel_rfl) (fun _ _ _ h => h) (Or.inl ⟨by rfl, ?_⟩) hHeld ?_
       rotate_left
       · intro w hSw
         (try dsimp only at hSw)
         go_simp
         try with_reducible rfl
       try simp only [Act.put, List.setIfInBounds_toArray, List.set_cons_zero, List.set_cons_succ])
    | fail
    refine wpAnyH_ready (rs := [1]) (by kernel_rfl) (by simp) ?_
    refine AllReadyH.cons (o := ({ dst := some 10, op := Op.call { callee := Callee.value (Operand.func 21), args := #[Operand.tmp 9], argTypes := #[26] }, type := 4, pos := "ident.go:110", after := #[{ on := 0, ground := Ground.data }], guard := none })) rfl (fun K hK => ?_) AllReadyH.nil
    go_simp
    refine (CR.out _).mono ?_
    rintro e wA ⟨rfl, hbA⟩
    have HBA := Lib.hid (below_next HBd.out HBd.out.size hbA)
    clear hbA
    refine hK.out _ _ ?_ (fun hHeld2 => ?_)
    · (try dsimp only)
      exact HP.out _ HBA.out
    clear hK K hHeld
    rename _ => hHeld
    try simp only [Act.put, List.setIfInBounds_toArray, List.set_cons_zero, List.set_cons_succ]
    first
    | (refine wpAnyH_take (i := 2) (oi := ({ dst := some 11, op := Op.unOp UnOp.not 4 (Operand.tmp 10), type := 4, pos := "ident.go:110", after := #[{ on := 1, ground := Ground.data }], guard := none })) (v := ?_) rfl (by kernel_rfl) (by kernel_rfl) (by kernel_rfl) (fun _ _ _ h => h) (Or.inl ⟨by rfl, ?_⟩) hHeld ?_
       rotate_left
       · intro w hSw
         (try dsimp only at hSw)
         go_simp
         try with_reducible rfl
       try simp only [Act.put, List.setIfInBounds_toArray, List.set_cons_zero, List.set_cons_succ])
    | fail
    first
    | (refine wpAnyH_take (i := 3) (oi := ({ dst := some 12, op := Op.move (Operand.tmp 11), type := 4, pos := "ident.go:110", after := #[{ on := 2, ground := Ground.data }, { on := 1, ground := Ground.chain }], guard := none })) (v := ?_) rfl (by kernel_rfl) (by kernel_rfl) (by kernel_rfl) (fun _ _ _ h => h) (Or.inl ⟨by rfl, ?_⟩) hHeld ?_
       rotate_left
       · intro w hSw
         (try dsimp only at hSw)
         go_simp
         try with_reducible rfl
       try simp only [Act.put, List.setIfInBounds_toArray, List.set_cons_zero, List.set_cons_succ])
    | fail
    first
    | (refine wpAnyH_take (i := 4) (oi := ({ dst := some 13, op := Op.fieldAddr 26 (Operand.tmp 3) 0, type := 0, pos := "ident.go:110", after := #[{ on := 3, ground := Ground.guard }], guard := some (3, false) })) (v := undef) rfl (by kernel_rfl) (by kernel_rfl) (by kernel_rfl) (fun _ _ _ h => h) (Or.inr ⟨by rfl, rfl⟩) hHeld ?_
       try simp only [Act.put, List.setIfInBounds_toArray, List.set_cons_zero, List.set_cons_succ])
    | fail
    first
    | (refine wpAnyH_take (i := 5) (oi := ({ dst := some 14, op := Op.load 24 (Operand.tmp 13), type := 24, pos := "ident.go:110", after := #[{ on := 4, ground := Ground.data }, { on := 3, ground := Ground.guard }], guard := some (3, false) })) (v := undef) rfl (by kernel_rfl) (by kernel_rfl) (by kernel_rfl) (fun _ _ _ h => h) (Or.inr ⟨by rfl, rfl⟩) hHeld ?_
       try simp only [Act.put, List.setIfInBounds_toArray, List.set_cons_zero, List.set_cons_succ])
    | fail
    first
    | (refine wpAnyH_take (i := 6) (oi := ({ dst := some 15, op := Op.move (Operand.tmp 0), type := 59, pos := "ident.go:110", after := #[{ on := 3, ground := Ground.guard }], guard := some (3, false) })) (v := undef) rfl (by kernel_rfl) (by kernel_rfl) (by kernel_rfl) (fun _ _ _ h => h) (Or.inr ⟨by rfl, rfl⟩) hHeld ?_
       try simp only [Act.put, List.setIfInBounds_toArray, List.set_cons_zero, List.set_cons_succ])
    | fail
    first
    | (refine wpAnyH_take (i := 7) (oi := ({ dst := some 16, op := Op.nilCheck (Operand.tmp 15), type := 0, pos := "ident.go:110", after := #[{ on := 6, ground := Ground.data }, { on := 3, ground := Ground.guard }], guard := some (3, false) })) (v := undef) rfl (by kernel_rfl) (by kernel_rfl) (by kernel_rfl) (fun _ _ _ h => h) (Or.inr ⟨by rfl, rfl⟩) hHeld ?_
       try simp only [Act.put, List.setIfInBounds_toArray, List.set_cons_zero, List.set_cons_succ])
    | fail
    first
    | (refine wpAnyH_take (i := 8) (oi := ({ dst := some 17, op := Op.fieldAddr 63 (Operand.tmp 16) 0, type := 0, pos := "ident.go:110", after := #[{ on := 7, ground := Ground.data }, { on := 3, ground := Ground.guard }], guard := some (3, false) })) (v := undef) rfl (by kernel_rfl) (by kernel_rfl) (by kernel_rfl) (fun _ _ _ h => h) (Or.inr ⟨by rfl, rfl⟩) hHeld ?_
       try simp only [Act.put, List.setIfInBounds_toArray, List.set_cons_zero, List.set_cons_succ])
    | fail
    first
    | (refine wpAnyH_take (i := 9) (oi := ({ dst := some 18, op := Op.fieldAddr 26 (Operand.tmp 17) 0, type := 0, pos := "ident.go:110", after := #[{ on := 8, ground := Ground.data }, { on := 3, ground := Ground.guard }], guard := some (3, false) })) (v := undef) rfl (by kernel_rfl) (by kernel_rfl) (by kernel_rfl) (fun _ _ _ h => h) (Or.inr ⟨by rfl, rfl⟩) hHeld ?_
       try simp only [Act.put, List.setIfInBounds_toArray, List.set_cons_zero, List.set_cons_succ])
    | fail
    first
    | (refine wpAnyH_take (i := 10) (oi := ({ dst := some 19, op := Op.load 24 (Operand.tmp 18), type := 24, pos := "ident.go:110", after := #[{ on := 9, ground := Ground.data }, { on := 3, ground := Ground.guard }], guard := some (3, false) })) (v := undef) rfl (by kernel_rfl) (by kernel_rfl) (by kernel_rfl) (fun _ _ _ h => h) (Or.inr ⟨by rfl, rfl⟩) hHeld ?_
       try simp only [Act.put, List.setIfInBounds_toArray, List.set_cons_zero, List.set_cons_succ])
    | fail
    first
    | (refine wpAnyH_take (i := 11) (oi := ({ dst := some 20, op := Op.binOp BinOp.neq 24 (Operand.tmp 14) (Operand.tmp 19) 24, type := 4, pos := "ident.go:110", after := #[{ on := 5, ground := Ground.data }, { on := 10, ground := Ground.data }, { on := 3, ground := Ground.guard }], guard := some (3, false) })) (v := undef) rfl (by kernel_rfl) (by kernel_rfl) (by kernel_rfl) (fun _ _ _ h => h) (Or.inr ⟨by rfl, rfl⟩) hHeld ?_
       try simp only [Act.put, List.setIfInBounds_toArray, List.set_cons_zero, List.set_cons_succ])
    | fail
    first
    | (refine wpAnyH_take (i := 12) (oi := ({ dst := some 21, op := Op.pick (Operand.tmp 12) (Operand.const (Value.bool true)) (Operand.tmp 20), type := 4, pos := "ident.go:110", after := #[{ on := 3, ground := Ground.data }, { on := 11, ground := Ground.data }], guard := none })) (v := ?_) rfl (by kernel_rfl) (by kernel_rfl) (by kernel_rfl) (fun _ _ _ h => h) (Or.inl ⟨by rfl, ?_⟩) hHeld ?_
       rotate_left
       · intro w hSw
         (try dsimp only at hSw)
         go_simp
         try with_reducible rfl
       try simp only [Act.put, List.setIfInBounds_toArray, List.set_cons_zero, List.set_cons_succ])
    | fail
    first
    | (refine wpAnyH_take (i := 13) (oi := ({ dst := some 8, op := Op.assign (Operand.tmp 21), type := 4, pos := "ident.go:110", after := #[{ on := 12, ground := Ground.data }, { on := 3, ground := Ground.chain }], guard := none })) (v := ?_) rfl (by kernel_rfl) (by kernel_rfl) (by kernel_rfl) (fun _ _ _ h => h) (Or.inl ⟨by rfl, ?_⟩) hHeld ?_
       rotate_left
       · intro w hSw
         (try dsimp only at hSw)
         go_simp
         try with_reducible rfl
       try simp only [Act.put, List.setIfInBounds_toArray, List.set_cons_zero, List.set_cons_succ])
    | fail
    refine wpAnyH_done (by kernel_rfl) ?_ _
    clear HKE HKV HP HQ
    go_wp2_with fail
    go_ret
    exact ⟨by rw [HF.out]; rfl, by rw [HG.out]; exact Mk.next HK.out HBA.out, only_trans HO.out (only_below HBA.out)⟩
  · cases eq
    · have HF := Lib.hid (show er = 1 by rw [HKE.out, if_neg (by decide), if_pos rfl])
      have HG := Lib.hid (show P = ⟨⟨i, n, s, hh, d⟩, t, q⟩ by rw [HKV.out, HF.out]; rfl)
      have hq := HQ.out
      refine wp_region_held_drew (S := (fun w' => (w'.cell? ⟨w.heap.size, 0, none⟩ = some (.bool i2) ∧ w'.cell? ⟨w.heap.size, 1, none⟩ = some (.int .u64 n2) ∧ w'.cell? ⟨w.heap.size, 2, none⟩ = some (.int .u64 s2) ∧ w'.cell? ⟨w.heap.size, 3, none⟩ = some (.string h2) ∧ w'.cell? ⟨w.heap.size, 4, none⟩ = some (.string d2) ∧ w'.cell? ⟨w.heap.size, 5, none⟩ = some (.int .u64 t2) ∧ w'.cell? ⟨w.heap.size, 6, none⟩ = some (.int .u64 q2)) ∧ (w'.cell? ⟨g, 0, none⟩ = some (.bool i) ∧ w'.cell? ⟨g, 1, none⟩ = some (.int .u64 n) ∧ w'.cell? ⟨g, 2, none⟩ = some (.int .u64 s) ∧ w'.cell? ⟨g, 3, none⟩ = some (.string hh) ∧ w'.cell? ⟨g, 4, none⟩ = some (.string d) ∧ w'.cell? ⟨g, 5, none⟩ = some (.int .u64 t) ∧ w'.cell? ⟨g, 6, none⟩ = some (.int .u64 q) ∧ w'.cell? ⟨g, 7, none⟩ = some (.bool true)))) (by kernel_rfl) (HP.out _ HBd.out) (fun hHeld => ?_)
      first
      | (refine wpAnyH_take (i := 0) (oi := ({ dst := some 9, op := Op.load 26 (Operand.tmp 3), type := 26, pos := "ident.go:110", after := #[], guard := none })) (v := ?_) rfl (by kernel_rfl) (by kernel_rfl) (by kernel_rfl) (fun _ _ _ h => h) (Or.inl ⟨by rfl, ?_⟩) hHeld ?_
         rotate_left
         · intro w hSw
           (try dsimp only at hSw)
           go_simp
           try with_reducible rfl
         try simp only [Act.put, List.setIfInBounds_toArray, List.set_cons_zero, List.set_cons_succ])
      | fail
      refine wpAnyH_ready (rs := [1]) (by kernel_rfl) (by simp) ?_
      refine AllReadyH.cons (o := ({ dst := some 10, op := Op.call { callee := Callee.value (Operand.func 21), args := #[Operand.tmp 9], argTypes := #[26] }, type := 4, pos := "ident.go:110", after := #[{ on := 0, ground := Ground.data }], guard := none })) rfl (fun K hK => ?_) AllReadyH.nil
      go_simp
      refine (CR.out _).mono ?_
      rintro e wA ⟨rfl, hbA⟩
      have HBA := Lib.hid (below_next HBd.out HBd.out.size hbA)
      clear hbA
      refine hK.out _ _ ?_ (fun hHeld2 => ?_)
      · (try dsimp only)
        exact HP.out _ HBA.out
      clear hK K hHeld
      rename _ => hHeld
      try simp only [Act.put, List.setIfInBounds_toArray, List.set_cons_zero, List.set_cons_succ]
      first
      | (refine wpAnyH_take (i := 2) (oi := ({ dst := some 11, op := Op.unOp UnOp.not 4 (Operand.tmp 10), type := 4, pos := "ident.go:110", after := #[{ on := 1, ground := Ground.data }], guard := none })) (v := ?_) rfl (by kernel_rfl) (by kernel_rfl) (by kernel_rfl) (fun _ _ _ h => h) (Or.inl ⟨by rfl, ?_⟩) hHeld ?_
         rotate_left
         · intro w hSw
           (try dsimp only at hSw)
           go_simp
           try with_reducible rfl
         try simp only [Act.put, List.setIfInBounds_toArray, List.set_cons_zero, List.set_cons_succ])
      | fail
      first
      | (refine wpAnyH_take (i := 3) (oi := ({ dst := some 12, op := Op.move (Operand.tmp 11), type := 4, pos := "ident.go:110", after := #[{ on := 2, ground := Ground.data }, { on := 1, ground := Ground.chain }], guard := none })) (v := ?_) rfl (by kernel_rfl) (by kernel_rfl) (by kernel_rfl) (fun _ _ _ h => h) (Or.inl ⟨by rfl, ?_⟩) hHeld ?_
         rotate_left
         · intro w hSw
           (try dsimp only at hSw)
           go_simp
           try with_reducible rfl
         try simp only [Act.put, List.setIfInBounds_toArray, List.set_cons_zero, List.set_cons_succ])
      | fail
      first
      | (refine wpAnyH_take (i := 4) (oi := ({ dst := some 13, op := Op.fieldAddr 26 (Operand.tmp 3) 0, type := 0, pos := "ident.go:110", after := #[{ on := 3, ground := Ground.guard }], guard := some (3, false) })) (v := ?_) rfl (by kernel_rfl) (by kernel_rfl) (by kernel_rfl) (fun _ _ _ h => h) (Or.inl ⟨by rfl, ?_⟩) hHeld ?_
         rotate_left
         · intro w hSw
           (try dsimp only at hSw)
           go_simp
           try with_reducible rfl
         try simp only [Act.put, List.setIfInBounds_toArray, List.set_cons_zero, List.set_cons_succ])
      | fail
      first
      | (refine wpAnyH_take (i := 5) (oi := ({ dst := some 14, op := Op.load 24 (Operand.tmp 13), type := 24, pos := "ident.go:110", after := #[{ on := 4, ground := Ground.data }, { on := 3, ground := Ground.guard }], guard := some (3, false) })) (v := ?_) rfl (by kernel_rfl) (by kernel_rfl) (by kernel_rfl) (fun _ _ _ h => h) (Or.inl ⟨by rfl, ?_⟩) hHeld ?_
         rotate_left
         · intro w hSw
           (try dsimp only at hSw)
           go_simp
           try with_reducible rfl
         try simp only [Act.put, List.setIfInBounds_toArray, List.set_cons_zero, List.set_cons_succ])
      | fail
      first
      | (refine wpAnyH_take (i := 6) (oi := ({ dst := some 15, op := Op.move (Operand.tmp 0), type := 59, pos := "ident.go:110", after := #[{ on := 3, ground := Ground.guard }], guard := some (3, false) })) (v := ?_) rfl (by kernel_rfl) (by kernel_rfl) (by kernel_rfl) (fun _ _ _ h => h) (Or.inl ⟨by rfl, ?_⟩) hHeld ?_
         rotate_left
         · intro w hSw
           (try dsimp only at hSw)
           go_simp
           try with_reducible rfl
         try simp only [Act.put, List.setIfInBounds_toArray, List.set_cons_zero, List.set_cons_succ])
      | fail
      first
      | (refine wpAnyH_take (i := 7) (oi := ({ dst := some 16, op := Op.nilCheck (Operand.tmp 15), type := 0, pos := "ident.go:110", after := #[{ on := 6, ground := Ground.data }, { on := 3, ground := Ground.guard }], guard := some (3, false) })) (v := ?_) rfl (by kernel_rfl) (by kernel_rfl) (by kernel_rfl) (fun _ _ _ h => h) (Or.inl ⟨by rfl, ?_⟩) hHeld ?_
         rotate_left
         · intro w hSw
           (try dsimp only at hSw)
           go_simp
           try with_reducible rfl
         try simp only [Act.put, List.setIfInBounds_toArray, List.set_cons_zero, List.set_cons_succ])
      | fail
      first
      | (refine wpAnyH_take (i := 8) (oi := ({ dst := some 17, op := Op.fieldAddr 63 (Operand.tmp 16) 0, type := 0, pos := "ident.go:110", after := #[{ on := 7, ground := Ground.data }, { on := 3, ground := Ground.guard }], guard := some (3, false) })) (v := ?_) rfl (by kernel_rfl) (by kernel_rfl) (by kernel_rfl) (fun _ _ _ h => h) (Or.inl ⟨by rfl, ?_⟩) hHeld ?_
         rotate_left
         · intro w hSw
           (try dsimp only at hSw)
           go_simp
           try with_reducible rfl
         try simp only [Act.put, List.setIfInBounds_toArray, List.set_cons_zero, List.set_cons_succ])
      | fail
      first
      | (refine wpAnyH_take (i := 9) (oi := ({ dst := some 18, op := Op.fieldAddr 26 (Operand.tmp 17) 0, type := 0, pos := "ident.go:110", after := #[{ on := 8, ground := Ground.data }, { on := 3, ground := Ground.guard }], guard := some (3, false) })) (v := ?_) rfl (by kernel_rfl) (by kernel_rfl) (by kernel_rfl) (fun _ _ _ h => h) (Or.inl ⟨by rfl, ?_⟩) hHeld ?_
         rotate_left
         · intro w hSw
           (try dsimp only at hSw)
           go_simp
           try with_reducible rfl
         try simp only [Act.put, List.setIfInBounds_toArray, List.set_cons_zero, List.set_cons_succ])
      | fail
      first
      | (refine wpAnyH_take (i := 10) (oi := ({ dst := some 19, op := Op.load 24 (Operand.tmp 18), type := 24, pos := "ident.go:110", after := #[{ on := 9, ground := Ground.data }, { on := 3, ground := Ground.guard }], guard := some (3, false) })) (v := ?_) rfl (by kernel_rfl) (by kernel_rfl) (by kernel_rfl) (fun _ _ _ h => h) (Or.inl ⟨by rfl, ?_⟩) hHeld ?_
         rotate_left
         · intro w hSw
           (try dsimp only at hSw)
           go_simp
           try with_reducible rfl
         try simp only [Act.put, List.setIfInBounds_toArray, List.set_cons_zero, List.set_cons_succ])
      | fail
      first
      | (refine wpAnyH_take (i := 11) (oi := ({ dst := some 20, op := Op.binOp BinOp.neq 24 (Operand.tmp 14) (Operand.tmp 19) 24, type := 4, pos := "ident.go:110", after := #[{ on := 5, ground := Ground.data }, { on := 10, ground := Ground.data }, { on := 3, ground := Ground.guard }], guard := some (3, false) })) (v := ?_) rfl (by kernel_rfl) (by kernel_rfl) (by kernel_rfl) (fun _ _ _ h => h) (Or.inl ⟨by rfl, ?_⟩) hHeld ?_
         rotate_left
         · intro w hSw
           (try dsimp only at hSw)
           go_simp
           try with_reducible rfl
         try simp only [Act.put, List.setIfInBounds_toArray, List.set_cons_zero, List.set_cons_succ])
      | fail
      first
      | (refine wpAnyH_take (i := 12) (oi := ({ dst := some 21, op := Op.pick (Operand.tmp 12) (Operand.const (Value.bool true)) (Operand.tmp 20), type := 4, pos := "ident.go:110", after := #[{ on := 3, ground := Ground.data }, { on := 11, ground := Ground.data }], guard := none })) (v := ?_) rfl (by kernel_rfl) (by kernel_rfl) (by kernel_rfl) (fun _ _ _ h => h) (Or.inl ⟨by rfl, ?_⟩) hHeld ?_
         rotate_left
         · intro w hSw
           (try dsimp only at hSw)
           go_simp
           try with_reducible rfl
         try simp only [Act.put, List.setIfInBounds_toArray, List.set_cons_zero, List.set_cons_succ])
      | fail
      first
      | (refine wpAnyH_take (i := 13) (oi := ({ dst := some 8, op := Op.assign (Operand.tmp 21), type := 4, pos := "ident.go:110", after := #[{ on := 12, ground := Ground.data }, { on := 3, ground := Ground.chain }], guard := none })) (v := ?_) rfl (by kernel_rfl) (by kernel_rfl) (by kernel_rfl) (fun _ _ _ h => h) (Or.inl ⟨by rfl, ?_⟩) hHeld ?_
         rotate_left
         · intro w hSw
           (try dsimp only at hSw)
           go_simp
           try with_reducible rfl
         try simp only [Act.put, List.setIfInBounds_toArray, List.set_cons_zero, List.set_cons_succ])
      | fail
      refine wpAnyH_done (by kernel_rfl) ?_ _
      clear HKE HKV HP HQ hq
      go_wp2_with fail
      go_ret
      exact ⟨by rw [HF.out]; rfl, by rw [HG.out]; exact Mk.next HK.out HBA.out, only_trans HO.out (only_below HBA.out)⟩
    · have hq := HQ.out
      refine wp_region_held_drew (S := (fun w' => (w'.cell? ⟨w.heap.size, 0, none⟩ = some (.bool i2) ∧ w'.cell? ⟨w.heap.size, 1, none⟩ = some (.int .u64 n2) ∧ w'.cell? ⟨w.heap.size, 2, none⟩ = some (.int .u64 s2) ∧ w'.cell? ⟨w.heap.size, 3, none⟩ = some (.string h2) ∧ w'.cell? ⟨w.heap.size, 4, none⟩ = some (.string d2) ∧ w'.cell? ⟨w.heap.size, 5, none⟩ = some (.int .u64 t2) ∧ w'.cell? ⟨w.heap.size, 6, none⟩ = some (.int .u64 q2)) ∧ (w'.cell? ⟨g, 0, none⟩ = some (.bool i) ∧ w'.cell? ⟨g, 1, none⟩ = some (.int .u64 n) ∧ w'.cell? ⟨g, 2, none⟩ = some (.int .u64 s) ∧ w'.cell? ⟨g, 3, none⟩ = some (.string hh) ∧ w'.cell? ⟨g, 4, none⟩ = some (.string d) ∧ w'.cell? ⟨g, 5, none⟩ = some (.int .u64 t) ∧ w'.cell? ⟨g, 6, none⟩ = some (.int .u64 q) ∧ w'.cell? ⟨g, 7, none⟩ = some (.bool true)))) (by kernel_rfl) (HP.out _ HBd.out) (fun hHeld => ?_)
      first
      | (refine wpAnyH_take (i := 0) (oi := ({ dst := some 9, op := Op.load 26 (Operand.tmp 3), type := 26, pos := "ident.go:110", after := #[], guard := none })) (v := ?_) rfl (by kernel_rfl) (by kernel_rfl) (by kernel_rfl) (fun _ _ _ h => h) (Or.inl ⟨by rfl, ?_⟩) hHeld ?_
         rotate_left
         · intro w hSw
           (try dsimp only at hSw)
           go_simp
           try with_reducible rfl
         try simp only [Act.put, List.setIfInBounds_toArray, List.set_cons_zero, List.set_cons_succ])
      | fail
      refine wpAnyH_ready (rs := [1]) (by kernel_rfl) (by simp) ?_
      refine AllReadyH.cons (o := ({ dst := some 10, op := Op.call { callee := Callee.value (Operand.func 21), args := #[Operand.tmp 9], argTypes := #[26] }, type := 4, pos := "ident.go:110", after := #[{ on := 0, ground := Ground.data }], guard := none })) rfl (fun K hK => ?_) AllReadyH.nil
      go_simp
      refine (CR.out _).mono ?_
      rintro e wA ⟨rfl, hbA⟩
      have HBA := Lib.hid (below_next HBd.out HBd.out.size hbA)
      clear hbA
      refine hK.out _ _ ?_ (fun hHeld2 => ?_)
      · (try dsimp only)
        exact HP.out _ HBA.out
      clear hK K hHeld
      rename _ => hHeld
      try simp only [Act.put, List.setIfInBounds_toArray, List.set_cons_zero, List.set_cons_succ]
      first
      | (refine wpAnyH_take (i := 2) (oi := ({ dst := some 11, op := Op.unOp UnOp.not 4 (Operand.tmp 10), type := 4, pos := "ident.go:110", after := #[{ on := 1, ground := Ground.data }], guard := none })) (v := ?_) rfl (by kernel_rfl) (by kernel_rfl) (by kernel_rfl) (fun _ _ _ h => h) (Or.inl ⟨by rfl, ?_⟩) hHeld ?_
         rotate_left
         · intro w hSw
           (try dsimp only at hSw)
           go_simp
           try with_reducible rfl
         try simp only [Act.put, List.setIfInBounds_toArray, List.set_cons_zero, List.set_cons_succ])
      | fail
      first
      | (refine wpAnyH_take (i := 3) (oi := ({ dst := some 12, op := Op.move (Operand.tmp 11), type := 4, pos := "ident.go:110", after := #[{ on := 2, ground := Ground.data }, { on := 1, ground := Ground.chain }], guard := none })) (v := ?_) rfl (by kernel_rfl) (by kernel_rfl) (by kernel_rfl) (fun _ _ _ h => h) (Or.inl ⟨by rfl, ?_⟩) hHeld ?_
         rotate_left
         · intro w hSw
           (try dsimp only at hSw)
           go_simp
           try with_reducible rfl
         try simp only [Act.put, List.setIfInBounds_toArray, List.set_cons_zero, List.set_cons_succ])
      | fail
      first
      | (refine wpAnyH_take (i := 4) (oi := ({ dst := some 13, op := Op.fieldAddr 26 (Operand.tmp 3) 0, type := 0, pos := "ident.go:110", after := #[{ on := 3, ground := Ground.guard }], guard := some (3, false) })) (v := ?_) rfl (by kernel_rfl) (by kernel_rfl) (by kernel_rfl) (fun _ _ _ h => h) (Or.inl ⟨by rfl, ?_⟩) hHeld ?_
         rotate_left
         · intro w hSw
           (try dsimp only at hSw)
           go_simp
           try with_reducible rfl
         try simp only [Act.put, List.setIfInBounds_toArray, List.set_cons_zero, List.set_cons_succ])
      | fail
      first
      | (refine wpAnyH_take (i := 5) (oi := ({ dst := some 14, op := Op.load 24 (Operand.tmp 13), type := 24, pos := "ident.go:110", after := #[{ on := 4, ground := Ground.data }, { on := 3, ground := Ground.guard }], guard := some (3, false) })) (v := ?_) rfl (by kernel_rfl) (by kernel_rfl) (by kernel_rfl) (fun _ _ _ h => h) (Or.inl ⟨by rfl, ?_⟩) hHeld ?_
         rotate_left
         · intro w hSw
           (try dsimp only at hSw)
           go_simp
           try with_reducible rfl
         try simp only [Act.put, List.setIfInBounds_toArray, List.set_cons_zero, List.set_cons_succ])
      | fail
      first
      | (refine wpAnyH_take (i := 6) (oi := ({ dst := some 15, op := Op.move (Operand.tmp 0), type := 59, pos := "ident.go:110", after := #[{ on := 3, ground := Ground.guard }], guard := some (3, false) })) (v := ?_) rfl (by kernel_rfl) (by kernel_rfl) (by kernel_rfl) (fun _ _ _ h => h) (Or.inl ⟨by rfl, ?_⟩) hHeld ?_
         rotate_left
         · intro w hSw
           (try dsimp only at hSw)
           go_simp
           try with_reducible rfl
         try simp only [Act.put, List.setIfInBounds_toArray, List.set_cons_zero, List.set_cons_succ])
      | fail
      first
      | (refine wpAnyH_take (i := 7) (oi := ({ dst := some 16, op := Op.nilCheck (Operand.tmp 15), type := 0, pos := "ident.go:110", after := #[{ on := 6, ground := Ground.data }, { on := 3, ground := Ground.guard }], guard := some (3, false) })) (v := ?_) rfl (by kernel_rfl) (by kernel_rfl) (by kernel_rfl) (fun _ _ _ h => h) (Or.inl ⟨by rfl, ?_⟩) hHeld ?_
         rotate_left
         · intro w hSw
           (try dsimp only at hSw)
           go_simp
           try with_reducible rfl
         try simp only [Act.put, List.setIfInBounds_toArray, List.set_cons_zero, List.set_cons_succ])
      | fail
      first
      | (refine wpAnyH_take (i := 8) (oi := ({ dst := some 17, op := Op.fieldAddr 63 (Operand.tmp 16) 0, type := 0, pos := "ident.go:110", after := #[{ on := 7, ground := Ground.data }, { on := 3, ground := Ground.guard }], guard := some (3, false) })) (v := ?_) rfl (by kernel_rfl) (by kernel_rfl) (by kernel_rfl) (fun _ _ _ h => h) (Or.inl ⟨by rfl, ?_⟩) hHeld ?_
         rotate_left
         · intro w hSw
           (try dsimp only at hSw)
           go_simp
           try with_reducible rfl
         try simp only [Act.put, List.setIfInBounds_toArray, List.set_cons_zero, List.set_cons_succ])
      | fail
      first
      | (refine wpAnyH_take (i := 9) (oi := ({ dst := some 18, op := Op.fieldAddr 26 (Operand.tmp 17) 0, type := 0, pos := "ident.go:110", after := #[{ on := 8, ground := Ground.data }, { on := 3, ground := Ground.guard }], guard := some (3, false) })) (v := ?_) rfl (by kernel_rfl) (by kernel_rfl) (by kernel_rfl) (fun _ _ _ h => h) (Or.inl ⟨by rfl, ?_⟩) hHeld ?_
         rotate_left
         · intro w hSw
           (try dsimp only at hSw)
           go_simp
           try with_reducible rfl
         try simp only [Act.put, List.setIfInBounds_toArray, List.set_cons_zero, List.set_cons_succ])
      | fail
      first
      | (refine wpAnyH_take (i := 10) (oi := ({ dst := some 19, op := Op.load 24 (Operand.tmp 18), type := 24, pos := "ident.go:110", after := #[{ on := 9, ground := Ground.data }, { on := 3, ground := Ground.guard }], guard := some (3, false) })) (v := ?_) rfl (by kernel_rfl) (by kernel_rfl) (by kernel_rfl) (fun _ _ _ h => h) (Or.inl ⟨by rfl, ?_⟩) hHeld ?_
         rotate_left
         · intro w hSw
           (try dsimp only at hSw)
           go_simp
           try with_reducible rfl
         try simp only [Act.put, List.setIfInBounds_toArray, List.set_cons_zero, List.set_cons_succ])
      | fail
      first
      | (refine wpAnyH_take (i := 11) (oi := ({ dst := some 20, op := Op.binOp BinOp.neq 24 (Operand.tmp 14) (Operand.tmp 19) 24, type := 4, pos := "ident.go:110", after := #[{ on := 5, ground := Ground.data }, { on := 10, ground := Ground.data }, { on := 3, ground := Ground.guard }], guard := some (3, false) })) (v := ?_) rfl (by kernel_rfl) (by kernel_rfl) (by kernel_rfl) (fun _ _ _ h => h) (Or.inl ⟨by rfl, ?_⟩) hHeld ?_
         rotate_left
         · intro w hSw
           (try dsimp only at hSw)
           go_simp
           try with_reducible rfl
         try simp only [Act.put, List.setIfInBounds_toArray, List.set_cons_zero, List.set_cons_succ])
      | fail
      first
      | (refine wpAnyH_take (i := 12) (oi := ({ dst := some 21, op := Op.pick (Operand.tmp 12) (Operand.const (Value.bool true)) (Operand.tmp 20), type := 4, pos := "ident.go:110", after := #[{ on := 3, ground := Ground.data }, { on := 11, ground := Ground.data }], guard := none })) (v := ?_) rfl (by kernel_rfl) (by kernel_rfl) (by kernel_rfl) (fun _ _ _ h => h) (Or.inl ⟨by rfl, ?_⟩) hHeld ?_
         rotate_left
         · intro w hSw
           (try dsimp only at hSw)
           go_simp
           try with_reducible rfl
         try simp only [Act.put, List.setIfInBounds_toArray, List.set_cons_zero, List.set_cons_succ])
      | fail
      first
      | (refine wpAnyH_take (i := 13) (oi := ({ dst := some 8, op := Op.assign (Operand.tmp 21), type := 4, pos := "ident.go:110", after := #[{ on := 12, ground := Ground.data }, { on := 3, ground := Ground.chain }], guard := none })) (v := ?_) rfl (by kernel_rfl) (by kernel_rfl) (by kernel_rfl) (fun _ _ _ h => h) (Or.inl ⟨by rfl, ?_⟩) hHeld ?_
         rotate_left
         · intro w hSw
           (try dsimp only at hSw)
           go_simp
           try with_reducible rfl
         try simp only [Act.put, List.setIfInBounds_toArray, List.set_cons_zero, List.set_cons_succ])
      | fail
      refine wpAnyH_done (by kernel_rfl) ?_ _
      clear hq
      go_upto_region 5 with (fail)
      have HBe := Lib.hid HBA.out.drew
      go_region_held3 (fun w' => (w'.cell? ⟨w.heap.size, 0, none⟩ = some (.bool i2) ∧ w'.cell? ⟨w.heap.size, 1, none⟩ = some (.int .u64 n2) ∧ w'.cell? ⟨w.heap.size, 2, none⟩ = some (.int .u64 s2) ∧ w'.cell? ⟨w.heap.size, 3, none⟩ = some (.string h2) ∧ w'.cell? ⟨w.heap.size, 4, none⟩ = some (.string d2) ∧ w'.cell? ⟨w.heap.size, 5, none⟩ = some (.int .u64 t2) ∧ w'.cell? ⟨w.heap.size, 6, none⟩ = some (.int .u64 q2)) ∧ (w'.cell? ⟨g, 0, none⟩ = some (.bool i) ∧ w'.cell? ⟨g, 1, none⟩ = some (.int .u64 n) ∧ w'.cell? ⟨g, 2, none⟩ = some (.int .u64 s) ∧ w'.cell? ⟨g, 3, none⟩ = some (.string hh) ∧ w'.cell? ⟨g, 4, none⟩ = some (.string d) ∧ w'.cell? ⟨g, 5, none⟩ = some (.int .u64 t) ∧ w'.cell? ⟨g, 6, none⟩ = some (.int .u64 q) ∧ w'.cell? ⟨g, 7, none⟩ = some (.bool true)))
        (first | with_reducible exact HP.out _ HBe.out | with_reducible exact HP.out _ HBB.out | fail)
        (first | (go_at_call 23; (with_reducible refine (CA.out _).mono ?_); rintro e wB ⟨rfl, hbB⟩; have HBB := Lib.hid (below_next HBe.out HBe.out.size hbB); clear hbB) | fail)
      have HKB := Lib.hid (Mk.next HK.out HBB.out)
      have HYB := Lib.hid (HY.out.next HBB.out)
      have HOB := Lib.hid (only_trans HO.out (only_below HBB.out))
      clear HP HBA HBe HBB HBd HK HY HO
      cases il
      · have HF := Lib.hid (show er = 7 by rw [HKE.out, if_neg (by decide), if_neg (by decide), if_pos rfl])
        have HG := Lib.hid (show P = ⟨⟨i, n, s, hh, d⟩, t, q⟩ by rw [HKV.out, HF.out]; rfl)
        clear HKE HKV HQ
        go_wp2_with fail
        go_ret
        exact ⟨by rw [HF.out]; rfl, by rw [HG.out]; exact HKB.out, HOB.out⟩
      · have HF := Lib.hid (show er = 0 by rw [HKE.out, if_neg (by decide), if_neg (by decide), if_neg (by decide)])
        have HG := Lib.hid (show P = ⟨⟨i2, n2, s2, h2, d2⟩, t2, q2⟩ by rw [HKV.out, HF.out]; rfl)
        clear HKE HKV HQ
        obtain ⟨c0, c1, c2, c3, c4, c5, c6, c7⟩ := cells8 HKB.out
        obtain ⟨z0, z1, z2, z3, z4, z5, z6⟩ := cells7 HYB.out
        obtain ⟨f0, f1, f2, f3, f4, f5, f6⟩ := froz7 (show Blk wB g 63 _ from HKB.out)
        go_wp2_with fail
        have HF1 : Hid (Mk (set7 wB g (.bool i2) (.int .u64 n2) (.int .u64 s2) (.string h2) (.string d2) (.int .u64 t2) (.int .u64 q2)) g ⟨⟨i2, n2, s2, h2, d2⟩, t2, q2⟩ true) := Lib.hid (set8_blk HKB.out _ _ _ _ _ _ _)
        have HF2 := Lib.hid (only_set7g HOB.out (.bool i2) (.int .u64 n2) (.int .u64 s2) (.string h2) (.string d2) (.int .u64 t2) (.int .u64 q2))
        go_ret
        exact ⟨by rw [HF.out]; rfl, by rw [HG.out]; exact HF1.out, HF2.out⟩

set_option maxHeartbeats 2000000 in
theorem next_nil (now : Int) (w : World) : Calls Tryd.prog 29 #[.pointer none, .int .u64 now] w fun e w' => e = .returned (.tuple #[zeroId.val, .int .i64 6]) ∧ Below w.heap.size w w' := by
  have HB := Lib.hid ((Below.refl w.heap.size w).alloc (Nat.le_refl _) (.cells zero7 26))
  have HZ := Lib.hid (Blk.new w 26 zero7)
  go_enter Tryd.func29, Tryd.ntmps29
  go_upto_region 2 with (fail)
  generalize w.alloc (.cells #[.bool false, .int .u64 0, .int .u64 0, .string ⟨#[]⟩, .string ⟨#[]⟩, .int .u64 0, .int .u64 0] 26) = W at *
  go_wp2_with fail
  refine (none_nil _).mono ?_
  rintro e w1 ⟨rfl, rfl⟩
  obtain ⟨z0, z1, z2, z3, z4, z5, z6⟩ := cells7 HZ.out
  obtain ⟨f0, f1, f2, f3, f4, f5, f6⟩ := froz7 HZ.out
  go_wp2_with fail
  have HF1 := Lib.hid (set7_blk HZ.out (.bool false) (.int .u64 0) (.int .u64 0) (.string ⟨#[]⟩) (.string ⟨#[]⟩) (.int .u64 0) (.int .u64 0))
  have HF2 := Lib.hid (set7_below HB.out (Nat.le_refl _) (.bool false) (.int .u64 0) (.int .u64 0) (.string ⟨#[]⟩) (.string ⟨#[]⟩) (.int .u64 0) (.int .u64 0))
  clear z0 z1 z2 z3 z4 z5 z6 f0 f1 f2 f3 f4 f5 f6
  generalize hW9 : set7 w1 w.heap.size (.bool false) (.int .u64 0) (.int .u64 0) (.string ⟨#[]⟩) (.string ⟨#[]⟩) (.int .u64 0) (.int .u64 0) = W9 at HF1 HF2
  unfold set7 at hW9
  rw [hW9]
  obtain ⟨z0, z1, z2, z3, z4, z5, z6⟩ := cells7 HF1.out
  refine bodyPost_ret (v := .tuple #[zeroId.val, .int .i64 6]) (by simp [results, Tryd.results29, go_sem, *]) rfl ⟨rfl, HF2.out⟩
set_option maxHeartbeats 2000000 in
theorem next_zero (g : Nat) (x : Id) (now : Int) (w : World) (h : Mk w g x false) : Calls Tryd.prog 29 #[.pointer (some ⟨g, 0, none⟩), .int .u64 now] w fun e w' => e = .returned (.tuple #[zeroId.val, .int .i64 6]) ∧ Below w.heap.size w w' := by
  have HB := Lib.hid ((Below.refl w.heap.size w).alloc (Nat.le_refl _) (.cells zero7 26))
  have HK := Lib.hid (h.next HB.out)
  have HZ := Lib.hid (Blk.new w 26 zero7)
  clear h
  go_enter Tryd.func29, Tryd.ntmps29
  go_upto_region 2 with (fail)
  generalize w.alloc (.cells #[.bool false, .int .u64 0, .int .u64 0, .string ⟨#[]⟩, .string ⟨#[]⟩, .int .u64 0, .int .u64 0] 26) = W at *
  go_wp2_with fail
  refine (none_any g x false _ HK.out).mono ?_
  rintro e w1 ⟨rfl, rfl⟩
  obtain ⟨z0, z1, z2, z3, z4, z5, z6⟩ := cells7 HZ.out
  obtain ⟨f0, f1, f2, f3, f4, f5, f6⟩ := froz7 HZ.out
  go_wp2_with fail
  have HF1 := Lib.hid (set7_blk HZ.out (.bool false) (.int .u64 0) (.int .u64 0) (.string ⟨#[]⟩) (.string ⟨#[]⟩) (.int .u64 0) (.int .u64 0))
  have HF2 := Lib.hid (set7_below HB.out (Nat.le_refl _) (.bool false) (.int .u64 0) (.int .u64 0) (.string ⟨#[]⟩) (.string ⟨#[]⟩) (.int .u64 0) (.int .u64 0))
  clear z0 z1 z2 z3 z4 z5 z6 f0 f1 f2 f3 f4 f5 f6
  generalize hW9 : set7 w1 w.heap.size (.bool false) (.int .u64 0) (.int .u64 0) (.string ⟨#[]⟩) (.string ⟨#[]⟩) (.int .u64 0) (.int .u64 0) = W9 at HF1 HF2
  unfold set7 at hW9
  rw [hW9]
  obtain ⟨z0, z1, z2, z3, z4, z5, z6⟩ := cells7 HF1.out
  refine bodyPost_ret (v := .tuple #[zeroId.val, .int .i64 6]) (by simp [results, Tryd.results29, go_sem, *]) rfl ⟨rfl, HF2.out⟩
set_option maxHeartbeats 2000000 in
theorem keep_nil (y : Id) (w : World) : Calls Tryd.prog 30 #[.pointer none, y.val] w fun e w' => e = .returned (.int .i64 6) ∧ Below w.heap.size w w' := by
  obtain ⟨⟨i2, n2, s2, h2, d2⟩, t2, q2⟩ := y
  have HB := Lib.hid ((Below.refl w.heap.size w).alloc (Nat.le_refl _) (.cells #[.bool i2, .int .u64 n2, .int .u64 s2, .string h2, .string d2, .int .u64 t2, .int .u64 q2] 26))
  go_enter Tryd.func30, Tryd.ntmps30
  go_upto_region 1 with (fail)
  generalize w.alloc (.cells #[.bool i2, .int .u64 n2, .int .u64 s2, .string h2, .string d2, .int .u64 t2, .int .u64 q2] 26) = W at *
  go_wp2_with fail
  refine (none_nil _).mono ?_
  rintro e w1 ⟨rfl, rfl⟩
  go_wp2_with fail
  go_ret
  exact ⟨rfl, HB.out⟩
set_option maxHeartbeats 2000000 in
theorem keep_zero (g : Nat) (x y : Id) (w : World) (h : Mk w g x false) : Calls Tryd.prog 30 #[.pointer (some ⟨g, 0, none⟩), y.val] w fun e w' => e = .returned (.int .i64 6) ∧ Below w.heap.size w w' := by
  obtain ⟨⟨i2, n2, s2, h2, d2⟩, t2, q2⟩ := y
  have HB := Lib.hid ((Below.refl w.heap.size w).alloc (Nat.le_refl _) (.cells #[.bool i2, .int .u64 n2, .int .u64 s2, .string h2, .string d2, .int .u64 t2, .int .u64 q2] 26))
  have HK := Lib.hid (h.next HB.out)
  clear h
  go_enter Tryd.func30, Tryd.ntmps30
  go_upto_region 1 with (fail)
  generalize w.alloc (.cells #[.bool i2, .int .u64 n2, .int .u64 s2, .string h2, .string d2, .int .u64 t2, .int .u64 q2] 26) = W at *
  go_wp2_with fail
  refine (none_any g x false _ HK.out).mono ?_
  rintro e w1 ⟨rfl, rfl⟩
  go_wp2_with fail
  go_ret
  exact ⟨rfl, HB.out⟩
end Go.Proofs.YtbgcbcnidjlhnaaDoor.Eid
