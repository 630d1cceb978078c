/- Which items are too much for a statement; the contracts of law03's Great and great. -/
import Derived.Test.YthknkdphofjmhaaDoorCbWrite
import Derived.Test.YthknkdphofjmhaaDoorCbSame
namespace Go.Proofs.YthknkdphofjmhaaDoor.Great
open Go.RowKit Wd Cb CbCopy CbRight CbSame

mutual
/-- What is left behind an item; below 0: too much. -/
def grt : Itm → Int → Int → Int
  | .mk _ _ b l, d, lf => if d > 9 ∨ (b.length : Int) > 3000 then -1 else grts l (d + 1) (lf - 1)
def grts : List Itm → Int → Int → Int
  | [], _, lf => lf
  | x :: l, d, lf => if 0 ≤ lf then grts l d (grt x d lf) else lf
end
theorem grt_sub (x : Itm) (d lf : Int) : grt x d lf = if d > 9 ∨ (x.bs.length : Int) > 3000 then -1 else grts x.sub (d + 1) (lf - 1) := by cases x; rfl
theorem grts_neg (l : List Itm) (d lf : Int) (h : lf < 0) : grts l d lf = lf := by
  cases l with
  | nil => rfl
  | cons x l => unfold grts; rw [if_neg (by omega)]
theorem grts_drop (l : List Itm) (k : Nat) (h : k < l.length) (d lf : Int) (h0 : 0 ≤ lf) : grts (l.drop k) d lf = grts (l.drop (k + 1)) d (grt l[k] d lf) := by
  rw [List.drop_eq_getElem_cons h]
  conv => lhs; unfold grts
  rw [if_pos h0]
mutual
theorem grt_le : ∀ (x : Itm) (d lf : Int), 0 ≤ lf → -1 ≤ grt x d lf ∧ grt x d lf ≤ lf - 1
  | .mk k n b l, d, lf, h => by
    unfold grt
    split
    · omega
    · have := grts_le l (d + 1) (lf - 1) (by omega)
      omega
theorem grts_le : ∀ (l : List Itm) (d lf : Int), -1 ≤ lf → -1 ≤ grts l d lf ∧ grts l d lf ≤ lf
  | [], d, lf, h => by unfold grts; omega
  | x :: l, d, lf, h => by
    unfold grts
    split
    · rename_i h0
      have h1 := grt_le x d lf h0
      have h2 := grts_le l d (grt x d lf) (by omega)
      omega
    · omega
end
theorem bytes_le (m n : Int) (o : Bool) : (HeadP.bytes m n o).length ≤ 9 := by
  have hf := HeadP.following_le (HeadP.low n o)
  simp only [HeadP.bytes, List.length_cons, HeadP.be_length]; omega
mutual
theorem grt_ok : ∀ (x : Itm) (d lf : Int), d ≤ 10 → 0 ≤ lf → 0 ≤ grt x d lf → grt x d lf = lf - size x ∧ deep x + d ≤ 10 ∧ (enc x).length ≤ 3009 * size x
  | .mk k n b l, d, lf, hd, h, h0 => by
    unfold grt at h0 ⊢
    split at h0
    · omega
    · rename_i hc
      rw [if_neg hc]
      have h1 := grts_ok l (d + 1) (lf - 1) (by omega) h0
      have h2 : 0 ≤ lf - 1 := by have := grts_le l (d + 1) (lf - 1) (by omega); omega
      obtain ⟨e1, e2, e3⟩ := h1
      have hb := bytes_le (Itm.mk k n b l).kind (cn (.mk k n b l)) false
      have he := congrArg List.length (enc_sub (.mk k n b l))
      simp only [List.length_append, Itm.bs, Itm.sub] at he
      have hs : size (.mk k n b l) = 1 + sizes l := size_sub (.mk k n b l)
      have hp : deep (.mk k n b l) = 1 + deeps l := deep_sub (.mk k n b l)
      refine ⟨by omega, by omega, ?_⟩
      rw [he, hs]
      omega
theorem grts_ok : ∀ (l : List Itm) (d lf : Int), d ≤ 10 → 0 ≤ grts l d lf → grts l d lf = lf - sizes l ∧ deeps l + d ≤ 10 ∧ (encs l).length ≤ 3009 * sizes l
  | [], d, lf, hd, h0 => by simp [grts, sizes, deeps, encs]; exact hd
  | x :: l, d, lf, hd, h0 => by
    unfold grts at h0 ⊢
    split at h0
    · rename_i hc
      rw [if_pos hc]
      have hx : 0 ≤ grt x d lf := by
        have := (grts_le l d (grt x d lf) (by have := grt_le x d lf hc; omega)).2
        omega
      obtain ⟨a1, a2, a3⟩ := grt_ok x d lf hd hc hx
      obtain ⟨b1, b2, b3⟩ := grts_ok l d (grt x d lf) hd h0
      simp only [sizes, deeps, encs, List.length_append]
      refine ⟨by omega, ?_, by omega⟩
      omega
    · omega
end

set_option maxRecDepth 100000 in
set_option maxHeartbeats 1000000 in
theorem great_rec (N : Nat) : ∀ (x : Itm) (v : Value) (d lf : Int) (w : World), deep x ≤ N → ItemV w 0 w.heap.size x v → 1 ≤ d → d ≤ 10 → 0 ≤ lf → lf ≤ 400 →
    Calls Tryd.prog 6 #[v, .int .i64 d, .int .i64 lf] w fun e w' => e = .returned (.int .i64 (grt x d lf)) ∧ Below w.heap.size w w' := by
  induction N with
  | zero => intro x v d lf w hN; have := deep_pos x; omega
  | succ N ih =>
    intro x v d lf w hN hv hd1 hd2 hl1 hl2
    obtain ⟨A, c, A', c', rfl, hk, hn, hb, h1, h2, h3, h4, h5, h6⟩ := hv.open_
    have hds := Nat.le_of_eq (deep_sub x)
    have hds' := Nat.le_of_eq (deep_sub x).symm
    have HK := Lib.hid (Blk.new w 26 #[.int .i64 x.kind, .int .u64 x.num, .slice A x.bs.length c, .slice A' x.sub.length c'])
    have HI := Lib.hid (h6.alloc (Nat.le_refl _) (.cells #[.int .i64 x.kind, .int .u64 x.num, .slice A x.bs.length c, .slice A' x.sub.length c'] 26))
    have HB := Lib.hid ((Below.refl w.heap.size w).alloc (Nat.le_refl _) (.cells #[.int .i64 x.kind, .int .u64 x.num, .slice A x.bs.length c, .slice A' x.sub.length c'] 26))
    have HP := Lib.hid (grt_sub x d lf)
    unfold maxLen at h5 h2
    clear hv h3 h6 hk hn hb
    go_enter Tryd.func6, Tryd.ntmps6
    by_cases hdd : d > 9
    · have t0 : decide (9 < d) = true := decide_eq_true (by omega)
      have HE := Lib.hid (show grt x d lf = -1 by rw [HP.out, if_pos (.inl hdd)])
      go_wp2_with fail
      go_ret
      exact ⟨by rw [HE.out]; rfl, HB.out⟩
    · have t0 : decide (9 < d) = false := decide_eq_false (by omega)
      by_cases hbl : (x.bs.length : Int) > 3000
      · have t1 : decide (3000 < (x.bs.length : Int)) = true := decide_eq_true (by omega)
        have HE := Lib.hid (show grt x d lf = -1 by rw [HP.out, if_pos (.inr hbl)])
        go_wp2_with fail
        go_ret
        exact ⟨by rw [HE.out]; rfl, HB.out⟩
      · have t1 : decide (3000 < (x.bs.length : Int)) = false := decide_eq_false (by omega)
        have HE := Lib.hid (show grt x d lf = grts x.sub (d + 1) (lf - 1) by rw [HP.out, if_neg (by omega)])
        have HDD : Hid (1 ≤ d ∧ d ≤ 9) := Lib.hid (by omega)
        clear hbl hdd HP
        go_wp2_with fail
        generalize w.alloc (.cells #[.int .i64 x.kind, .int .u64 x.num, .slice A x.bs.length c, .slice A' x.sub.length c'] 26) = W0 at *
        clear t0 t1
        go_loopw [2, 7] (fun lv i wr => ∃ (k : Nat) (q : Int), k ≤ x.sub.length ∧ i = .int .i64 k ∧ lv = .int .i64 q ∧ -1 ≤ q ∧ q ≤ 400 ∧ Hid (grts (x.sub.drop k) (d + 1) q = grts x.sub (d + 1) (lf - 1)) ∧ Hid (Below W0.heap.size W0 wr)) (fun _ i _ => x.sub.length - (intOf i).toNat)
        case atStart => exact ⟨0, lf - 1, by omega, rfl, rfl, by omega, by omega, Lib.hid (by simp), Lib.hid (Below.refl _ _)⟩
        case round =>
          obtain ⟨k, q, hk, rfl, rfl, hq1, hq2, HQ, HW⟩ := hrel
          have hD := HDD.out
          have g3 : wr.cell? ⟨w.heap.size, 3, none⟩ = some (.slice A' x.sub.length c') := (HW.out.cell (p := ⟨w.heap.size, 3, none⟩) HK.out.lt).trans (by simpa using HK.out.cell 3)
          by_cases hlt : k < x.sub.length
          · by_cases hq : 0 ≤ q
            · obtain ⟨b, o, A1, cc, A2, cc', rfl, b0, b1, e0, e1, e2, e3, q1, q2, q3, q4, q5, q6, q7, q8, q9⟩ := (HI.out.below (HW.out.mono (by have := HK.out.lt; omega))).at_ hlt
              have hwl : w.heap.size ≤ wr.heap.size := by have := HK.out.lt; have := HW.out.size; omega
              have CR := Lib.hid (ih x.sub[k] _ (d + 1) q wr (by have := deep_at x.sub k hlt; omega) (ItemV.of q1 q2 q3 q4 q5 (q6.more (Nat.le_refl _) hwl) q7 q8 (q9.more (Nat.le_refl _) hwl)) (by omega) (by omega) hq hq2)
              have HS := Lib.hid (grts_drop x.sub k hlt (d + 1) q hq)
              have hle := grt_le x.sub[k] (d + 1) q hq
              have c0 : decide ((k : Int) < (x.sub.length : Int)) = true := decide_eq_true (by omega)
              have c1 : decide (0 ≤ q) = true := decide_eq_true hq
              clear q3 q6 q9 hD
              go_wp2_with fail
              refine CR.out.mono ?_
              rintro e w2 ⟨rfl, hb2⟩
              have HW2 := Lib.hid (below_next HW.out HW.out.size hb2)
              clear hb2 CR g3 e0 e1 e2 e3 c0 c1
              go_wp2_with fail
              go_roundw
              case rel => exact ⟨k + 1, _, by omega, by go_num, rfl, hle.1, by omega, Lib.hid (by rw [← HS.out]; exact HQ.out), HW2⟩
              case measure => simp [intOf]; omega
            · have c0 : decide ((k : Int) < (x.sub.length : Int)) = true := decide_eq_true (by omega)
              have c1 : decide (0 ≤ q) = false := decide_eq_false hq
              have HF : Hid (q = grts x.sub (d + 1) (lf - 1)) := Lib.hid (by rw [← HQ.out, grts_neg _ _ _ (by omega)])
              go_wp2_with fail
              go_ret
              exact ⟨by rw [HE.out, ← HF.out]; rfl, below_next HB.out (by have := HK.out.lt; omega) HW.out⟩
          · obtain rfl : k = x.sub.length := by omega
            have c0 : decide ((x.sub.length : Int) < (x.sub.length : Int)) = false := decide_eq_false (by omega)
            have HF : Hid (q = grts x.sub (d + 1) (lf - 1)) := Lib.hid (by rw [← HQ.out, List.drop_length]; rfl)
            go_wp2_with fail
            go_ret
            exact ⟨by rw [HE.out, ← HF.out]; rfl, below_next HB.out (by have := HK.out.lt; omega) HW.out⟩

end Go.Proofs.YthknkdphofjmhaaDoor.Great
