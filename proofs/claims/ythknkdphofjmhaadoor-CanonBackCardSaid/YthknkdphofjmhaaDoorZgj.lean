/- Texts of my own, laid together: CanNu, CanHp. -/
import Derived.Test.YthknkdphofjmhaaDoorZgh
import Derived.Test.YthknkdphofjmhaaDoorEidW
import Derived.Test.YthknkdphofjmhaaDoorZg4
import Derived.Test.YthknkdphofjmhaaDoorZgi
import Derived.BigQuiet
/- Numbers as items: the contract of numbers (a row of the call's own). -/
namespace Go.Proofs.YthknkdphofjmhaaDoor.Can
open Go.RowKit Wd Cb Eid CbCopy CbList CbBytes CbOpen
attribute [local go_sem ↓] Go.wp_at_zero Go.wp_at_succ

abbrev un64 (l : List Int) : List Value := l.map (Value.int .u64)
/-- A row of items of the call's own. -/
def RowI (w' : World) (base : Nat) (v : Value) (l : List Itm) : Prop := ∃ vs, w'.ownsRow base 26 4 v l.length vs ∧ Firm w' base w'.heap.size v.ownBlock l vs
theorem RowI.slice {w' : World} {base : Nat} {v : Value} {l : List Itm} (h : RowI w' base v l) : ∃ A c, v = .slice A l.length c ∧ l.length ≤ c ∧ c ≤ maxLen := by
  obtain ⟨vs, ho, hf⟩ := h
  exact own_sl ho
theorem RowI.items {w' : World} {base n c : Nat} {A : Option Addr} {l : List Itm} (h : RowI w' base (.slice A n c) l) (hn : n = l.length) : ItemsV w' base w'.heap.size l A := by
  subst hn
  obtain ⟨vs, ho, hf⟩ := h
  exact firm_ItemsV ho hf
theorem RowI.keep {w w' : World} {base : Nat} {v : Value} {l : List Itm} (h : RowI w base v l) (hb : Below w.heap.size w w') : RowI w' base v l := by
  obtain ⟨vs, ho, hf⟩ := h
  exact ⟨vs, own_later ho hb, (hf.keep (fun q _ h2 => hb.cell h2)).more hb.size⟩

set_option maxRecDepth 100000 in
set_option maxHeartbeats 4000000 in
theorem numbers_any (A : Option Addr) (B c : Nat) (l : List Int) (w : World) (hs : Lst w B A (un64 l)) (hB : B ≤ w.heap.size) (hb : ∀ x ∈ l, 0 ≤ x ∧ x ≤ 18446744073709551615) (hl : l.length ≤ 100) :
    Calls Tryd.prog 40 #[.slice A l.length c] w fun e w' => ∃ v, e = .returned v ∧ Hid (RowI w' w.heap.size v (l.map iN)) ∧ Below w.heap.size w w' := by
  obtain ⟨i0, hi0, hz0', hz1', hz2'⟩ := info_parts info_item
  have HS := Lib.hid (fun (W : World) (h : Below w.heap.size w W) => hs.below (h.mono hB))
  have HO1 := Lib.hid (nilRow w w.heap.size 26 4)
  have HN := Lib.hid (fun (i : Nat) (hi : i < l.length) => hb l[i] (List.getElem_mem hi))
  clear hs hb
  go_enter Tryd.func40, Tryd.ntmps40
  go_wp2_with fail
  go_loopg [3, 8] l.length (fun gk v iv wr => ∃ (vs : List Value) (i : Nat), gk = l.length - i ∧ iv = .int .i64 i ∧ i ≤ l.length ∧ Hid (∃ vv, vv = v ∧ wr.ownsRow w.heap.size 26 4 vv i vs ∧ Firm wr w.heap.size wr.heap.size vv.ownBlock ((l.take i).map iN) vs) ∧ Hid (Below w.heap.size w wr))
  case atStart => exact ⟨[], 0, rfl, rfl, by omega, Lib.hid ⟨_, rfl, HO1.out, Firm.none_ _ _ _ _⟩, Lib.hid (Below.refl _ _)⟩
  case round =>
    obtain ⟨vs, i, hgk, rfl, hin, ⟨vv, rfl, hO, hF⟩, HB⟩ := hrel
    have HO := Lib.hid hO
    have HF := Lib.hid hF
    clear HO1 hO hF
    have hsz := HB.out.size
    by_cases hi : i < l.length
    · have d0 : decide ((i : Int) < (l.length : Int)) = true := decide_eq_true (by omega)
      obtain ⟨b, o, hA, _, hc⟩ := (HS.out wr HB.out).at_ (k := i) (by simpa using hi)
      subst hA
      have hci : wr.cell? ⟨b, o + i, none⟩ = some (.int .u64 l[i]) := by rw [hc i (by simpa using hi)]; simp [hi]
      clear hc
      have CN := Lib.hid (fun W => num_any l[i] W (HN.out i hi).1 (HN.out i hi).2)
      have hTK : (l.take (i + 1)).map iN = (l.take i).map iN ++ [iN l[i]] := by rw [List.take_succ_eq_append_getElem hi, List.map_append]; rfl
      have HTK := Lib.hid hTK
      have hNN := HN.out i hi
      clear hTK
      generalize l[i] = x at *
      have j0 : (0 : Int) ≤ (i : Int) := by omega
      have j1 : (i : Int) < (l.length : Int) := by omega
      go_wp2_with fail
      refine (CN.out _).mono ?_
      rintro e w3 ⟨rfl, hb3⟩
      have hza : (w3.alloc (.cells #[.int .i64 0, .int .u64 x, .slice none 0 0, .slice none 0 0] 26)).heap.size = w3.heap.size + 1 := World.size_alloc _ _
      have hba := (Below.refl w3.heap.size w3).alloc (Nat.le_refl _) (.cells #[.int .i64 0, .int .u64 x, .slice none 0 0, .slice none 0 0] 26)
      have hbb := below_next hb3 hb3.size hba
      have HSG : Hid (Seg (w3.alloc (.cells #[.int .i64 0, .int .u64 x, .slice none 0 0, .slice none 0 0] 26)) 0 (w3.heap.size + 1) (some ⟨w3.heap.size, 0, none⟩) [.int .i64 0, .int .u64 x, .slice none 0 0, .slice none 0 0]) :=
        Lib.hid (Seg.of_lst (Lst.lit w3 #[.int .i64 0, .int .u64 x, .slice none 0 0, .slice none 0 0] 26))
      have hob : ∀ r, vv.ownBlock = some r → w.heap.size ≤ r ∧ r < wr.heap.size := fun r hr => HO.out.lt r hr
      have HOB := Lib.hid hob
      have HO3 := Lib.hid (own_later HO.out hbb)
      have HF3 := Lib.hid (HF.out.keep (fun q _ h2 => hbb.cell h2))
      have HX3 : Hid (Rep (w3.alloc (.cells #[.int .i64 0, .int .u64 x, .slice none 0 0, .slice none 0 0] 26)) wr.heap.size (w3.alloc (.cells #[.int .i64 0, .int .u64 x, .slice none 0 0, .slice none 0 0] 26)).heap.size (iN x) [.int .i64 0, .int .u64 x, .slice none 0 0, .slice none 0 0]) := Lib.hid (by
        unfold Rep
        exact ⟨none, 0, none, 0, [], rfl, ⟨by decide, by decide⟩, hNN, fun q hq => (by cases hq), Nat.le_refl _, by unfold maxLen; omega, .nil, Nat.le_refl _, by unfold maxLen; omega, .nil, Reps.none_⟩)
      have HB3 := Lib.hid (below_next HB.out hsz hbb)
      have hs3 := hb3.size
      have HM : i + 1 ≤ maxLen := by unfold maxLen; omega
      have HMB : (i + 1) * 64 ≤ 140737488355328 := by omega
      have HBS : w.heap.size ≤ (w3.alloc (.cells #[.int .i64 0, .int .u64 x, .slice none 0 0, .slice none 0 0] 26)).heap.size := by omega
      have hiw : IntKind.i64.wrap ((i : Int) + 1) = (i : Int) + 1 := IntWalk.i64_in _ (by omega)
      clear hba hbb hb3 hob HO HF HB CN hci
      go_wp2_with (first
        | (at_builtin
           refine wpList_append_seg _ rfl (.tmp 12) (.tmp 15) _ (by rfl) w.heap.size 26 i0 _ 64 Tryd.underlying24 hi0 hz0' 4 hz1' hz2' rfl (by omega) vv i vs (by rfl) HO3.out
             0 (w3.heap.size + 1) (some ⟨w3.heap.size, 0, none⟩) 1 1 [.int .i64 0, .int .u64 x, .slice none 0 0, .slice none 0 0] (by rfl) rfl HSG.out (by simp [Value.oneCell']) HM HMB HBS ?_
           intro v4 w4 hown4 hg4 hat4
           have HO4 := Lib.hid hown4
           have HF4 := Lib.hid (HF3.out.snoc HX3.out (by omega) (by omega) hg4 (fun r hr => (HOB.out r hr).2) hat4)
           have HB4 := Lib.hid (HB3.out.grown hg4 (by omega) (fun k hk => (HOB.out k hk).1))
           clear hown4 hg4 hat4))
      go_roundg (l.length - (i + 1))
      case measure => omega
      case rel => exact ⟨_, i + 1, rfl, by first | rfl | (congr 1), by omega, Lib.hid ⟨_, rfl, HO4.out, by rw [HTK.out]; exact HF4.out⟩, HB4⟩
    · obtain rfl : i = l.length := by omega
      have d0 : decide ((l.length : Int) < (l.length : Int)) = false := decide_eq_false (by omega)
      go_wp2_with fail
      go_ret
      exact ⟨vv, rfl, Lib.hid ⟨vs, by simpa using HO.out, by simpa using HF.out⟩, HB.out⟩
end Go.Proofs.YthknkdphofjmhaaDoor.Can
/- What data say: the contract of hops. -/
namespace Go.Proofs.YthknkdphofjmhaaDoor.Can
open Go.RowKit Wd Cb Eid EncB Prim CbCopy CbList CbRight CbWrite CbSame CbRead CbShort

theorem fromOne_any (n : Int) (w : World) : Calls Tryd.prog 50 #[.int .u64 n] w fun e w' => e = .returned (.bool (decide (1 ≤ n) && decide (n ≤ 255))) ∧ w' = w := by
  go_enter Tryd.func50, Tryd.ntmps50
  cases h1 : decide (1 ≤ n)
  · go_wp2_with fail
    go_ret
    exact ⟨rfl, rfl⟩
  · go_wp2_with fail
    go_ret
    exact ⟨by simp, rfl⟩

/-- What hops answers. -/
def HopsO (xs : List Int) (e : Ending) : Prop := ∃ (l c : Int) (ok : Bool), e = .returned (.tuple #[.int .u64 l, .int .u64 c, .bool ok]) ∧ Hid ((ok = true → HopsD xs l c) ∧ (ok = false → ∀ l' c', ¬ HopsD xs l' c'))
theorem hops_none {xs : List Int} {z : Itm} {sh : Bool} (hl : xs.length ≤ 1000000) (hz : z.sub.length ≠ 2) (h : (sh = true → Says xs z) ∧ (sh = false → ∀ x, ¬ Says xs x)) (l c : Int) : ¬ HopsD xs l c := by
  intro hm
  cases sh
  · exact h.2 rfl _ hm.2
  · have e := says_one (by omega) (h.1 rfl) hm.2
    rw [e] at hz
    exact hz rfl
theorem hops_says {xs : List Int} {z : Itm} {sh : Bool} (hl : xs.length ≤ 1000000) (h2 : z.sub.length = 2) (hn : ∀ k (h : k < z.sub.length), 0 ≤ (z.sub[k]).num) (h : (sh = true → Says xs z) ∧ (sh = false → ∀ x, ¬ Says xs x)) {n0 n1 : Int} (e0 : (z.sub[0]'(by omega)).num = n0) (e1 : (z.sub[1]'(by omega)).num = n1)
    (ok : Bool) (ho : ok = (sh && (same z (iL (iN n0) (iN n1)) && ((decide (1 ≤ n0) && decide (n0 ≤ 255)) && decide (n1 ≤ n0))))) : (ok = true → HopsD xs n0 n1) ∧ (ok = false → ∀ l' c', ¬ HopsD xs l' c') := by
  subst ho
  have p0 := hn 0 (by omega)
  have p1 := hn 1 (by omega)
  rw [e0] at p0
  rw [e1] at p1
  cases sh
  · exact ⟨fun e => (by cases e), fun _ l c hm => h.2 rfl _ hm.2⟩
  · have hs := h.1 rfl
    have key : ∀ l c, HopsD xs l c → z = iL (iN l) (iN c) ∧ n0 = l ∧ n1 = c := fun l c hm => by
      have e := says_one (by omega) hs hm.2
      subst e
      exact ⟨rfl, e0.symm, e1.symm⟩
    refine ⟨fun e => ?_, fun e l c hm => ?_⟩
    · simp only [Bool.true_and, Bool.and_eq_true, decide_eq_true_eq] at e
      obtain ⟨q1, ⟨q2, q3⟩, q4⟩ := e
      have hz := (same_iff _ _).1 q1
      exact ⟨⟨q2, q3, p1, q4⟩, by rw [← hz]; exact hs⟩
    · obtain ⟨hz, rfl, rfl⟩ := key l c hm
      obtain ⟨⟨g1, g2, g3, g4⟩, _⟩ := hm
      rw [hz, same_self, decide_eq_true g1, decide_eq_true g2, decide_eq_true g4] at e
      cases e

set_option maxRecDepth 100000 in
set_option maxHeartbeats 8000000 in
theorem hops_any (A : Option Addr) (B c : Nat) (xs : List Int) (w : World) (hs : Lst w B A (u8s xs)) (hB : B ≤ w.heap.size) (hx : St.bts xs) (hc : xs.length ≤ c) (hm : c ≤ maxLen) (hl : xs.length ≤ 1000000) (hT : Tabs w) :
    Calls Tryd.prog 49 #[.slice A xs.length c] w fun e w' => HopsO xs e ∧ Below w.heap.size w w' := by
  have CI := Lib.hid (item_any A B c xs w hs hB hx hc hm hl hT)
  clear hs hT hx
  go_enter Tryd.func49, Tryd.ntmps49
  go_wp2_with fail
  refine CI.out.mono ?_
  rintro e w1 ⟨⟨z, v, sh, rfl, HV, HG, HS⟩, hb1⟩
  have hv := HV.out.more (Nat.zero_le _) (Nat.le_refl _)
  obtain ⟨A1, c1, A2, c2, rfl, r1, r2, r3, r4, r5, r6, r7, r8, r9⟩ := hv.open_
  have HX0 := Lib.hid hv
  have HBw := Lib.hid ((Below.refl w1.heap.size w1).alloc (Nat.le_refl _) (.cells #[.int .i64 z.kind, .int .u64 z.num, .slice A1 z.bs.length c1, .slice A2 z.sub.length c2] 26))
  have HBa := Lib.hid (hb1.alloc hb1.size (.cells #[.int .i64 z.kind, .int .u64 z.num, .slice A1 z.bs.length c1, .slice A2 z.sub.length c2] 26))
  have HKa := Lib.hid (Blk.new w1 26 #[.int .i64 z.kind, .int .u64 z.num, .slice A1 z.bs.length c1, .slice A2 z.sub.length c2])
  by_cases h2 : z.sub.length = 2
  · have d2 : ((z.sub.length : Int) != 2) = false := by rw [h2]; rfl
    obtain ⟨b, o, B1, b1, B2, b2, hA, hb0, hbs, e00, e01, e02, e03, q01, q02, q03, q04, q05, q06, q07, q08, q09⟩ := r9.at_ (k := 0) (by omega)
    obtain ⟨b', o', D1, d1, D2, d2', hA', hb0', hbs', e10, e11, e12, e13, q11, q12, q13, q14, q15, q16, q17, q18, q19⟩ := r9.at_ (k := 1) (by omega)
    obtain ⟨rfl, rfl⟩ : b = b' ∧ o = o' := by rw [hA] at hA'; injection hA' with hA'; injection hA' with h1 h2; exact ⟨h1, h2⟩
    have hnn : ∀ k (h : k < z.sub.length), 0 ≤ (z.sub[k]).num := fun k h => (nums_of HX0.out k h).1
    generalize hn0 : (z.sub[0]'(by omega)).num = n0 at *
    generalize hn1 : (z.sub[1]'(by omega)).num = n1 at *
    have HN := Lib.hid (hops_says hl h2 hnn HS.out hn0 hn1)
    have CS : Hid (∀ W AA cc, Below w1.heap.size w1 W → ItemV W 0 W.heap.size (iL (iN n0) (iN n1)) (.agg #[.int .i64 4, .int .u64 0, .slice none 0 0, .slice AA 2 cc]) → Calls Tryd.prog 19 #[.agg #[.int .i64 z.kind, .int .u64 z.num, .slice A1 z.bs.length c1, .slice A2 z.sub.length c2], .agg #[.int .i64 4, .int .u64 0, .slice none 0 0, .slice AA 2 cc]] W fun e w' => e = .returned (.bool (same z (iL (iN n0) (iN n1)))) ∧ Below W.heap.size W w') := Lib.hid (fun W AA cc hW hI =>
      sameTop_any z (iL (iN n0) (iN n1)) _ _ W.heap.size W ((HX0.out.below hW).more (Nat.le_refl _) hW.size) hI (Nat.le_refl _) (by have := HG.out.1; omega) (by have := HG.out.2.1; omega))
    have CN : Hid (∀ W : World, Calls Tryd.prog 40 #[.slice (some ⟨W.heap.size, 0, none⟩) 2 2] (W.alloc (.cells #[.int .u64 n0, .int .u64 n1] 22)).drew fun e w' => ∃ v, e = .returned v ∧ Hid (RowI w' (W.alloc (.cells #[.int .u64 n0, .int .u64 n1] 22)).drew.heap.size v [iN n0, iN n1]) ∧ Below (W.alloc (.cells #[.int .u64 n0, .int .u64 n1] 22)).drew.heap.size (W.alloc (.cells #[.int .u64 n0, .int .u64 n1] 22)).drew w') := Lib.hid (fun W =>
      numbers_any (some ⟨W.heap.size, 0, none⟩) (W.heap.size + 1) 2 [n0, n1] (W.alloc (.cells #[.int .u64 n0, .int .u64 n1] 22)).drew ((Lst.lit W #[.int .u64 n0, .int .u64 n1] 22).keep (fun _ _ => rfl)) (by simp) (by intro x hx; simp at hx; rcases hx with rfl | rfl <;> assumption) (by simp))
    have CL : Hid (∀ (W : World) (AA : Option Addr) (cc : Nat), 2 ≤ cc → cc ≤ maxLen → ItemsV W 0 W.heap.size [iN n0, iN n1] AA → Calls Tryd.prog 33 #[.slice AA 2 cc] W fun e w' => ∃ A', e = .returned (.agg #[.int .i64 4, .int .u64 0, .slice none 0 0, .slice A' 2 2]) ∧ Hid (ItemsV w' W.heap.size w'.heap.size [iN n0, iN n1] A') ∧ Below W.heap.size W w') := Lib.hid (fun W AA cc h1 h2 h3 =>
      list_any [iN n0, iN n1] AA W.heap.size cc W h3 (Nat.le_refl _) h1 h2 (by simp [CbList.wides, CbList.wide]) (by simp [sizes, size]) (by simp [deeps, deep]))
    have hbw := HBw.out
    have HE := Lib.hid (fun (w' : World) (h : Below (w1.alloc (.cells #[.int .i64 z.kind, .int .u64 z.num, .slice A1 z.bs.length c1, .slice A2 z.sub.length c2] 26)).heap.size (w1.alloc (.cells #[.int .i64 z.kind, .int .u64 z.num, .slice A1 z.bs.length c1, .slice A2 z.sub.length c2] 26)) w') =>
      And.intro (((below_next hbw hbw.size h).cell (p := ⟨b, o + 1, none⟩) hbs).trans (by simpa using e01)) (((below_next hbw hbw.size h).cell (p := ⟨b, o + 4 + 1, none⟩) hbs).trans (by simpa using e11)))
    clear CI HV HG HS hb1 hv HX0 r1 r2 r3 r4 r5 r6 r7 r8 r9 hbw e00 e01 e02 e03 e10 e11 e12 e13 q01 q02 q03 q04 q05 q06 q07 q08 q09 q11 q12 q13 q14 q15 q16 q17 q18 q19 hA' hn0 hn1 hnn
    subst hA
    generalize hsl : z.sub.length = sl at *
    subst h2
    generalize same z (iL (iN n0) (iN n1)) = sm at *
    generalize z.num = zn at *
    generalize z.kind = kk at *
    generalize z.bs.length = bl at *
    go_upto_region 4 with (fail)
    generalize w1.alloc (.cells #[.int .i64 kk, .int .u64 zn, .slice A1 bl c1, .slice (some ⟨b, o, none⟩) 2 c2] 26) = W at *
    obtain ⟨e01, e11⟩ := HE.out W (Below.refl _ _)
    obtain ⟨k0, k1, k2, k3⟩ := cells4 HKa.out
    go_quiet (fail)
    clear HE e01 e11 k0 k1 k2 k3
    go_upto_region 5 with (fail)
    have HBq := Lib.hid (U8V.below_drewNv (Below.refl W.heap.size W) nq)
    generalize W.drewN nq = V at *
    have HBd := Lib.hid HBq.out.drew
    have HBe := Lib.hid (HBq.out.alloc HBq.out.size (.cells #[.int .u64 n0, .int .u64 n1] 22)).drew
    have KL : Hid (∀ w', Below W.heap.size W w' → w'.cell? ⟨w1.heap.size, 0, none⟩ = some (.int .i64 kk) ∧ w'.cell? ⟨w1.heap.size, 1, none⟩ = some (.int .u64 zn) ∧ w'.cell? ⟨w1.heap.size, 2, none⟩ = some (.slice A1 bl c1) ∧ w'.cell? ⟨w1.heap.size, 3, none⟩ = some (.slice (some ⟨b, o, none⟩) 2 c2)) := Lib.hid (fun w' h => cells4 (HKa.out.next h))
    have fin : ∀ (ok : Bool) (w' : World), ok = (sh && (sm && ((decide (1 ≤ n0) && decide (n0 ≤ 255)) && decide (n1 ≤ n0)))) → Below W.heap.size W w' → HopsO xs (.returned (.tuple #[.int .u64 n0, .int .u64 n1, .bool ok])) ∧ Below w.heap.size w w' :=
      fun ok w' e hb => ⟨⟨n0, n1, ok, rfl, Lib.hid (HN.out ok e)⟩, below_next HBa.out HBa.out.size hb⟩
    have HF := Lib.hid fin
    clear fin HN hl hc hB
    cases sh
    · clear CS CN CL
      refine wp_region_held_drew (S := (fun w' => w'.cell? ⟨w1.heap.size, 0, none⟩ = some (.int .i64 kk) ∧ w'.cell? ⟨w1.heap.size, 1, none⟩ = some (.int .u64 zn) ∧ w'.cell? ⟨w1.heap.size, 2, none⟩ = some (.slice A1 bl c1) ∧ w'.cell? ⟨w1.heap.size, 3, none⟩ = some (.slice (some ⟨b, o, none⟩) 2 c2))) (by kernel_rfl) (KL.out _ HBd.out) (fun hHeld => ?_)
      first
      | (refine wpAnyH_take (i := 0) (oi := ({ dst := some 25, op := Op.move (Operand.tmp 2), type := 22, pos := "data.go:49", after := #[], guard := none })) (v := ?_) rfl (by kernel_rfl) (by kernel_rfl) (by kernel_rfl) (fun _ _ _ h => h) (Or.inl ⟨by rfl, ?_⟩) hHeld ?_
         rotate_left
         · intro w hSw
           (try dsimp only at hSw)
           go_simp
           try with_reducible rfl
         try simp only [Act.put, List.setIfInBounds_toArray, List.set_cons_zero, List.set_cons_succ])
      | fail
      first
      | (refine wpAnyH_take (i := 1) (oi := ({ dst := some 26, op := Op.move (Operand.tmp 3), type := 22, pos := "data.go:49", after := #[{ on := 21, ground := Ground.gcOnly Departure.lateStores }], guard := none })) (v := ?_) rfl (by kernel_rfl) (by kernel_rfl) (by kernel_rfl) (fun _ _ _ h => h) (Or.inl ⟨by rfl, ?_⟩) hHeld ?_
         rotate_left
         · intro w hSw
           (try dsimp only at hSw)
           go_simp
           try with_reducible rfl
         try simp only [Act.put, List.setIfInBounds_toArray, List.set_cons_zero, List.set_cons_succ])
      | fail
      first
      | (refine wpAnyH_take (i := 2) (oi := ({ dst := some 27, op := Op.move (Operand.tmp 4), type := 4, pos := "data.go:49", after := #[], guard := none })) (v := ?_) rfl (by kernel_rfl) (by kernel_rfl) (by kernel_rfl) (fun _ _ _ h => h) (Or.inl ⟨by rfl, ?_⟩) hHeld ?_
         rotate_left
         · intro w hSw
           (try dsimp only at hSw)
           go_simp
           try with_reducible rfl
         try simp only [Act.put, List.setIfInBounds_toArray, List.set_cons_zero, List.set_cons_succ])
      | fail
      first
      | (refine wpAnyH_take (i := 3) (oi := ({ dst := some 28, op := Op.move (Operand.tmp 27), type := 4, pos := "data.go:49", after := #[{ on := 2, ground := Ground.data }], guard := none })) (v := ?_) rfl (by kernel_rfl) (by kernel_rfl) (by kernel_rfl) (fun _ _ _ h => h) (Or.inl ⟨by rfl, ?_⟩) hHeld ?_
         rotate_left
         · intro w hSw
           (try dsimp only at hSw)
           go_simp
           try with_reducible rfl
         try simp only [Act.put, List.setIfInBounds_toArray, List.set_cons_zero, List.set_cons_succ])
      | fail
      first
      | (refine wpAnyH_take (i := 4) (oi := ({ dst := some 29, op := Op.load 26 (Operand.tmp 5), type := 26, pos := "data.go:49", after := #[{ on := 3, ground := Ground.guard }], guard := some (3, true) })) (v := undef) rfl (by kernel_rfl) (by kernel_rfl) (by kernel_rfl) (fun _ _ _ h => h) (Or.inr ⟨by rfl, rfl⟩) hHeld ?_
         try simp only [Act.put, List.setIfInBounds_toArray, List.set_cons_zero, List.set_cons_succ])
      | fail
      first
      | (refine wpAnyH_take (i := 5) (oi := ({ dst := some 30, op := Op.move (Operand.tmp 2), type := 22, pos := "data.go:49", after := #[{ on := 3, ground := Ground.guard }], guard := some (3, true) })) (v := undef) rfl (by kernel_rfl) (by kernel_rfl) (by kernel_rfl) (fun _ _ _ h => h) (Or.inr ⟨by rfl, rfl⟩) hHeld ?_
         try simp only [Act.put, List.setIfInBounds_toArray, List.set_cons_zero, List.set_cons_succ])
      | fail
      first
      | (refine wpAnyH_take (i := 6) (oi := ({ dst := some 31, op := Op.move (Operand.tmp 3), type := 22, pos := "data.go:49", after := #[{ on := 3, ground := Ground.guard }], guard := some (3, true) })) (v := undef) rfl (by kernel_rfl) (by kernel_rfl) (by kernel_rfl) (fun _ _ _ h => h) (Or.inr ⟨by rfl, rfl⟩) hHeld ?_
         try simp only [Act.put, List.setIfInBounds_toArray, List.set_cons_zero, List.set_cons_succ])
      | fail
      first
      | (refine wpAnyH_take (i := 7) (oi := ({ dst := some 32, op := Op.buildSlice 118 2 #[(0, Operand.tmp 30), (1, Operand.tmp 31)], type := 118, pos := "data.go:49", after := #[{ on := 5, ground := Ground.data }, { on := 6, ground := Ground.data }, { on := 3, ground := Ground.guard }], guard := some (3, true) })) (v := undef) rfl (by kernel_rfl) (by kernel_rfl) (by kernel_rfl) (fun _ _ _ h => h) (Or.inr ⟨by rfl, rfl⟩) hHeld ?_
         try simp only [Act.put, List.setIfInBounds_toArray, List.set_cons_zero, List.set_cons_succ])
      | fail
      first
      | (refine wpAnyH_take (i := 8) (oi := ({ dst := some 33, op := Op.call { callee := Callee.value (Operand.func 40), args := #[Operand.tmp 32], argTypes := #[118] }, type := 24, pos := "data.go:49", after := #[{ on := 7, ground := Ground.data }, { on := 3, ground := Ground.chain }, { on := 3, ground := Ground.guard }], guard := some (3, true) })) (v := undef) rfl (by kernel_rfl) (by kernel_rfl) (by kernel_rfl) (fun _ _ _ h => h) (Or.inr ⟨by rfl, rfl⟩) hHeld ?_
         try simp only [Act.put, List.setIfInBounds_toArray, List.set_cons_zero, List.set_cons_succ])
      | fail
      first
      | (refine wpAnyH_take (i := 9) (oi := ({ dst := some 34, op := Op.call { callee := Callee.value (Operand.func 33), args := #[Operand.tmp 33], argTypes := #[24] }, type := 26, pos := "data.go:49", after := #[{ on := 8, ground := Ground.data }, { on := 8, ground := Ground.chain }, { on := 3, ground := Ground.guard }], guard := some (3, true) })) (v := undef) rfl (by kernel_rfl) (by kernel_rfl) (by kernel_rfl) (fun _ _ _ h => h) (Or.inr ⟨by rfl, rfl⟩) hHeld ?_
         try simp only [Act.put, List.setIfInBounds_toArray, List.set_cons_zero, List.set_cons_succ])
      | fail
      first
      | (refine wpAnyH_take (i := 10) (oi := ({ dst := some 35, op := Op.call { callee := Callee.value (Operand.func 19), args := #[Operand.tmp 29, Operand.tmp 34], argTypes := #[26, 26] }, type := 4, pos := "data.go:49", after := #[{ on := 4, ground := Ground.data }, { on := 9, ground := Ground.data }, { on := 9, ground := Ground.chain }, { on := 3, ground := Ground.guard }], guard := some (3, true) })) (v := undef) rfl (by kernel_rfl) (by kernel_rfl) (by kernel_rfl) (fun _ _ _ h => h) (Or.inr ⟨by rfl, rfl⟩) hHeld ?_
         try simp only [Act.put, List.setIfInBounds_toArray, List.set_cons_zero, List.set_cons_succ])
      | fail
      first
      | (refine wpAnyH_take (i := 11) (oi := ({ dst := some 36, op := Op.pick (Operand.tmp 28) (Operand.tmp 35) (Operand.const (Value.bool false)), type := 4, pos := "data.go:49", after := #[{ on := 3, ground := Ground.data }, { on := 10, ground := Ground.data }], guard := none })) (v := ?_) rfl (by kernel_rfl) (by kernel_rfl) (by kernel_rfl) (fun _ _ _ h => h) (Or.inl ⟨by rfl, ?_⟩) hHeld ?_
         rotate_left
         · intro w hSw
           (try dsimp only at hSw)
           go_simp
           try with_reducible rfl
         try simp only [Act.put, List.setIfInBounds_toArray, List.set_cons_zero, List.set_cons_succ])
      | fail
      first
      | (refine wpAnyH_take (i := 12) (oi := ({ dst := some 37, op := Op.move (Operand.tmp 36), type := 4, pos := "data.go:49", after := #[{ on := 11, ground := Ground.data }, { on := 10, ground := Ground.chain }], guard := none })) (v := ?_) rfl (by kernel_rfl) (by kernel_rfl) (by kernel_rfl) (fun _ _ _ h => h) (Or.inl ⟨by rfl, ?_⟩) hHeld ?_
         rotate_left
         · intro w hSw
           (try dsimp only at hSw)
           go_simp
           try with_reducible rfl
         try simp only [Act.put, List.setIfInBounds_toArray, List.set_cons_zero, List.set_cons_succ])
      | fail
      first
      | (refine wpAnyH_take (i := 13) (oi := ({ dst := some 38, op := Op.move (Operand.tmp 2), type := 22, pos := "data.go:49", after := #[{ on := 12, ground := Ground.guard }], guard := some (12, true) })) (v := undef) rfl (by kernel_rfl) (by kernel_rfl) (by kernel_rfl) (fun _ _ _ h => h) (Or.inr ⟨by rfl, rfl⟩) hHeld ?_
         try simp only [Act.put, List.setIfInBounds_toArray, List.set_cons_zero, List.set_cons_succ])
      | fail
      first
      | (refine wpAnyH_take (i := 14) (oi := ({ dst := some 39, op := Op.call { callee := Callee.value (Operand.func 50), args := #[Operand.tmp 38], argTypes := #[22] }, type := 4, pos := "data.go:49", after := #[{ on := 13, ground := Ground.data }, { on := 12, ground := Ground.chain }, { on := 12, ground := Ground.guard }], guard := some (12, true) })) (v := undef) rfl (by kernel_rfl) (by kernel_rfl) (by kernel_rfl) (fun _ _ _ h => h) (Or.inr ⟨by rfl, rfl⟩) hHeld ?_
         try simp only [Act.put, List.setIfInBounds_toArray, List.set_cons_zero, List.set_cons_succ])
      | fail
      first
      | (refine wpAnyH_take (i := 15) (oi := ({ dst := some 40, op := Op.pick (Operand.tmp 37) (Operand.tmp 39) (Operand.const (Value.bool false)), type := 4, pos := "data.go:49", after := #[{ on := 12, ground := Ground.data }, { on := 14, ground := Ground.data }], guard := none })) (v := ?_) rfl (by kernel_rfl) (by kernel_rfl) (by kernel_rfl) (fun _ _ _ h => h) (Or.inl ⟨by rfl, ?_⟩) hHeld ?_
         rotate_left
         · intro w hSw
           (try dsimp only at hSw)
           go_simp
           try with_reducible rfl
         try simp only [Act.put, List.setIfInBounds_toArray, List.set_cons_zero, List.set_cons_succ])
      | fail
      first
      | (refine wpAnyH_take (i := 16) (oi := ({ dst := some 41, op := Op.move (Operand.tmp 40), type := 4, pos := "data.go:49", after := #[{ on := 15, ground := Ground.data }, { on := 14, ground := Ground.chain }], guard := none })) (v := ?_) rfl (by kernel_rfl) (by kernel_rfl) (by kernel_rfl) (fun _ _ _ h => h) (Or.inl ⟨by rfl, ?_⟩) hHeld ?_
         rotate_left
         · intro w hSw
           (try dsimp only at hSw)
           go_simp
           try with_reducible rfl
         try simp only [Act.put, List.setIfInBounds_toArray, List.set_cons_zero, List.set_cons_succ])
      | fail
      first
      | (refine wpAnyH_take (i := 17) (oi := ({ dst := some 42, op := Op.move (Operand.tmp 3), type := 22, pos := "data.go:49", after := #[{ on := 16, ground := Ground.guard }], guard := some (16, true) })) (v := undef) rfl (by kernel_rfl) (by kernel_rfl) (by kernel_rfl) (fun _ _ _ h => h) (Or.inr ⟨by rfl, rfl⟩) hHeld ?_
         try simp only [Act.put, List.setIfInBounds_toArray, List.set_cons_zero, List.set_cons_succ])
      | fail
      first
      | (refine wpAnyH_take (i := 18) (oi := ({ dst := some 43, op := Op.move (Operand.tmp 2), type := 22, pos := "data.go:49", after := #[{ on := 16, ground := Ground.guard }], guard := some (16, true) })) (v := undef) rfl (by kernel_rfl) (by kernel_rfl) (by kernel_rfl) (fun _ _ _ h => h) (Or.inr ⟨by rfl, rfl⟩) hHeld ?_
         try simp only [Act.put, List.setIfInBounds_toArray, List.set_cons_zero, List.set_cons_succ])
      | fail
      first
      | (refine wpAnyH_take (i := 19) (oi := ({ dst := some 44, op := Op.binOp BinOp.leq 22 (Operand.tmp 42) (Operand.tmp 43) 22, type := 4, pos := "data.go:49", after := #[{ on := 17, ground := Ground.data }, { on := 18, ground := Ground.data }, { on := 16, ground := Ground.guard }, { on := 22, ground := Ground.gcOnly Departure.lateStores }], guard := some (16, true) })) (v := undef) rfl (by kernel_rfl) (by kernel_rfl) (by kernel_rfl) (fun _ _ _ h => h) (Or.inr ⟨by rfl, rfl⟩) hHeld ?_
         try simp only [Act.put, List.setIfInBounds_toArray, List.set_cons_zero, List.set_cons_succ])
      | fail
      first
      | (refine wpAnyH_take (i := 20) (oi := ({ dst := some 45, op := Op.pick (Operand.tmp 41) (Operand.tmp 44) (Operand.const (Value.bool false)), type := 4, pos := "data.go:49", after := #[{ on := 16, ground := Ground.data }, { on := 19, ground := Ground.data }, { on := 22, ground := Ground.gcOnly Departure.lateStores }], guard := none })) (v := ?_) rfl (by kernel_rfl) (by kernel_rfl) (by kernel_rfl) (fun _ _ _ h => h) (Or.inl ⟨by rfl, ?_⟩) hHeld ?_
         rotate_left
         · intro w hSw
           (try dsimp only at hSw)
           go_simp
           try with_reducible rfl
         try simp only [Act.put, List.setIfInBounds_toArray, List.set_cons_zero, List.set_cons_succ])
      | fail
      first
      | (refine wpAnyH_take (i := 21) (oi := ({ dst := some 2, op := Op.assign (Operand.tmp 25), type := 22, pos := "data.go:49", after := #[{ on := 0, ground := Ground.data }, { on := 16, ground := Ground.chain }, { on := 0, ground := Ground.phase }, { on := 1, ground := Ground.textOnly Departure.lateStores }, { on := 2, ground := Ground.textOnly Departure.lateStores }, { on := 3, ground := Ground.textOnly Departure.lateStores }, { on := 4, ground := Ground.textOnly Departure.lateStores }, { on := 5, ground := Ground.phase }, { on := 6, ground := Ground.phase }, { on := 7, ground := Ground.textOnly Departure.lateStores }, { on := 8, ground := Ground.textOnly Departure.lateStoresUnsure }, { on := 9, ground := Ground.textOnly Departure.lateStoresUnsure }, { on := 10, ground := Ground.textOnly Departure.lateStoresUnsure }, { on := 11, ground := Ground.textOnly Departure.lateStores }, { on := 12, ground := Ground.textOnly Departure.lateStores }, { on := 13, ground := Ground.phase }, { on := 14, ground := Ground.textOnly Departure.lateStoresUnsure }, { on := 15, ground := Ground.textOnly Departure.lateStores }, { on := 16, ground := Ground.textOnly Departure.lateStores }, { on := 17, ground := Ground.phase }, { on := 18, ground := Ground.phase }, { on := 19, ground := Ground.textOnly Departure.lateStores }, { on := 20, ground := Ground.textOnly Departure.lateStores }], guard := none })) (v := ?_) rfl (by kernel_rfl) (by kernel_rfl) (by kernel_rfl) (fun _ _ _ h => h) (Or.inl ⟨by rfl, ?_⟩) hHeld ?_
         rotate_left
         · intro w hSw
           (try dsimp only at hSw)
           go_simp
           try with_reducible rfl
         try simp only [Act.put, List.setIfInBounds_toArray, List.set_cons_zero, List.set_cons_succ])
      | fail
      first
      | (refine wpAnyH_take (i := 22) (oi := ({ dst := some 3, op := Op.assign (Operand.tmp 26), type := 22, pos := "data.go:49", after := #[{ on := 1, ground := Ground.data }, { on := 21, ground := Ground.chain }, { on := 0, ground := Ground.phase }, { on := 1, ground := Ground.phase }, { on := 2, ground := Ground.textOnly Departure.lateStores }, { on := 3, ground := Ground.textOnly Departure.lateStores }, { on := 4, ground := Ground.textOnly Departure.lateStores }, { on := 5, ground := Ground.phase }, { on := 6, ground := Ground.phase }, { on := 7, ground := Ground.textOnly Departure.lateStores }, { on := 8, ground := Ground.textOnly Departure.lateStoresUnsure }, { on := 9, ground := Ground.textOnly Departure.lateStoresUnsure }, { on := 10, ground := Ground.textOnly Departure.lateStoresUnsure }, { on := 11, ground := Ground.textOnly Departure.lateStores }, { on := 12, ground := Ground.textOnly Departure.lateStores }, { on := 13, ground := Ground.phase }, { on := 14, ground := Ground.textOnly Departure.lateStoresUnsure }, { on := 15, ground := Ground.textOnly Departure.lateStores }, { on := 16, ground := Ground.textOnly Departure.lateStores }, { on := 17, ground := Ground.phase }, { on := 18, ground := Ground.phase }, { on := 19, ground := Ground.textOnly Departure.lateStores }, { on := 20, ground := Ground.textOnly Departure.lateStores }, { on := 21, ground := Ground.phase }], guard := none })) (v := ?_) rfl (by kernel_rfl) (by kernel_rfl) (by kernel_rfl) (fun _ _ _ h => h) (Or.inl ⟨by rfl, ?_⟩) hHeld ?_
         rotate_left
         · intro w hSw
           (try dsimp only at hSw)
           go_simp
           try with_reducible rfl
         try simp only [Act.put, List.setIfInBounds_toArray, List.set_cons_zero, List.set_cons_succ])
      | fail
      first
      | (refine wpAnyH_take (i := 23) (oi := ({ dst := some 4, op := Op.assign (Operand.tmp 45), type := 4, pos := "data.go:49", after := #[{ on := 20, ground := Ground.data }, { on := 22, ground := Ground.chain }, { on := 0, ground := Ground.phase }, { on := 1, ground := Ground.phase }, { on := 2, ground := Ground.phase }, { on := 3, ground := Ground.phase }, { on := 4, ground := Ground.phase }, { on := 5, ground := Ground.phase }, { on := 6, ground := Ground.phase }, { on := 7, ground := Ground.phase }, { on := 8, ground := Ground.phase }, { on := 9, ground := Ground.phase }, { on := 10, ground := Ground.phase }, { on := 11, ground := Ground.phase }, { on := 12, ground := Ground.phase }, { on := 13, ground := Ground.phase }, { on := 14, ground := Ground.phase }, { on := 15, ground := Ground.phase }, { on := 16, ground := Ground.phase }, { on := 17, ground := Ground.phase }, { on := 18, ground := Ground.phase }, { on := 19, ground := Ground.phase }, { on := 20, ground := Ground.phase }, { on := 21, ground := Ground.phase }, { on := 22, ground := Ground.phase }], guard := none })) (v := ?_) rfl (by kernel_rfl) (by kernel_rfl) (by kernel_rfl) (fun _ _ _ h => h) (Or.inl ⟨by rfl, ?_⟩) hHeld ?_
         rotate_left
         · intro w hSw
           (try dsimp only at hSw)
           go_simp
           try with_reducible rfl
         try simp only [Act.put, List.setIfInBounds_toArray, List.set_cons_zero, List.set_cons_succ])
      | fail
      refine wpAnyH_done (by kernel_rfl) ?_ _
      go_wp2_with fail
      exact bodyPost_ret (v := .tuple #[.int .u64 n0, .int .u64 n1, .bool false]) (by simp [results, Tryd.results49, go_sem]) rfl (HF.out _ _ rfl HBd.out)
    · cases sm
      · 
        refine wp_region_held_drew (S := (fun w' => w'.cell? ⟨w1.heap.size, 0, none⟩ = some (.int .i64 kk) ∧ w'.cell? ⟨w1.heap.size, 1, none⟩ = some (.int .u64 zn) ∧ w'.cell? ⟨w1.heap.size, 2, none⟩ = some (.slice A1 bl c1) ∧ w'.cell? ⟨w1.heap.size, 3, none⟩ = some (.slice (some ⟨b, o, none⟩) 2 c2))) (by kernel_rfl) (KL.out _ HBd.out) (fun hHeld => ?_)
        first
        | (refine wpAnyH_take (i := 0) (oi := ({ dst := some 25, op := Op.move (Operand.tmp 2), type := 22, pos := "data.go:49", after := #[], guard := none })) (v := ?_) rfl (by kernel_rfl) (by kernel_rfl) (by kernel_rfl) (fun _ _ _ h => h) (Or.inl ⟨by rfl, ?_⟩) hHeld ?_
           rotate_left
           · intro w hSw
             (try dsimp only at hSw)
             go_simp
             try with_reducible rfl
           try simp only [Act.put, List.setIfInBounds_toArray, List.set_cons_zero, List.set_cons_succ])
        | fail
        first
        | (refine wpAnyH_take (i := 1) (oi := ({ dst := some 26, op := Op.move (Operand.tmp 3), type := 22, pos := "data.go:49", after := #[{ on := 21, ground := Ground.gcOnly Departure.lateStores }], guard := none })) (v := ?_) rfl (by kernel_rfl) (by kernel_rfl) (by kernel_rfl) (fun _ _ _ h => h) (Or.inl ⟨by rfl, ?_⟩) hHeld ?_
           rotate_left
           · intro w hSw
             (try dsimp only at hSw)
             go_simp
             try with_reducible rfl
           try simp only [Act.put, List.setIfInBounds_toArray, List.set_cons_zero, List.set_cons_succ])
        | fail
        first
        | (refine wpAnyH_take (i := 2) (oi := ({ dst := some 27, op := Op.move (Operand.tmp 4), type := 4, pos := "data.go:49", after := #[], guard := none })) (v := ?_) rfl (by kernel_rfl) (by kernel_rfl) (by kernel_rfl) (fun _ _ _ h => h) (Or.inl ⟨by rfl, ?_⟩) hHeld ?_
           rotate_left
           · intro w hSw
             (try dsimp only at hSw)
             go_simp
             try with_reducible rfl
           try simp only [Act.put, List.setIfInBounds_toArray, List.set_cons_zero, List.set_cons_succ])
        | fail
        first
        | (refine wpAnyH_take (i := 3) (oi := ({ dst := some 28, op := Op.move (Operand.tmp 27), type := 4, pos := "data.go:49", after := #[{ on := 2, ground := Ground.data }], guard := none })) (v := ?_) rfl (by kernel_rfl) (by kernel_rfl) (by kernel_rfl) (fun _ _ _ h => h) (Or.inl ⟨by rfl, ?_⟩) hHeld ?_
           rotate_left
           · intro w hSw
             (try dsimp only at hSw)
             go_simp
             try with_reducible rfl
           try simp only [Act.put, List.setIfInBounds_toArray, List.set_cons_zero, List.set_cons_succ])
        | fail
        first
        | (refine wpAnyH_take (i := 4) (oi := ({ dst := some 29, op := Op.load 26 (Operand.tmp 5), type := 26, pos := "data.go:49", after := #[{ on := 3, ground := Ground.guard }], guard := some (3, true) })) (v := ?_) rfl (by kernel_rfl) (by kernel_rfl) (by kernel_rfl) (fun _ _ _ h => h) (Or.inl ⟨by rfl, ?_⟩) hHeld ?_
           rotate_left
           · intro w hSw
             (try dsimp only at hSw)
             go_simp
             try with_reducible rfl
           try simp only [Act.put, List.setIfInBounds_toArray, List.set_cons_zero, List.set_cons_succ])
        | fail
        first
        | (refine wpAnyH_take (i := 5) (oi := ({ dst := some 30, op := Op.move (Operand.tmp 2), type := 22, pos := "data.go:49", after := #[{ on := 3, ground := Ground.guard }], guard := some (3, true) })) (v := ?_) rfl (by kernel_rfl) (by kernel_rfl) (by kernel_rfl) (fun _ _ _ h => h) (Or.inl ⟨by rfl, ?_⟩) hHeld ?_
           rotate_left
           · intro w hSw
             (try dsimp only at hSw)
             go_simp
             try with_reducible rfl
           try simp only [Act.put, List.setIfInBounds_toArray, List.set_cons_zero, List.set_cons_succ])
        | fail
        first
        | (refine wpAnyH_take (i := 6) (oi := ({ dst := some 31, op := Op.move (Operand.tmp 3), type := 22, pos := "data.go:49", after := #[{ on := 3, ground := Ground.guard }], guard := some (3, true) })) (v := ?_) rfl (by kernel_rfl) (by kernel_rfl) (by kernel_rfl) (fun _ _ _ h => h) (Or.inl ⟨by rfl, ?_⟩) hHeld ?_
           rotate_left
           · intro w hSw
             (try dsimp only at hSw)
             go_simp
             try with_reducible rfl
           try simp only [Act.put, List.setIfInBounds_toArray, List.set_cons_zero, List.set_cons_succ])
        | fail
        refine wpAnyH_ready (rs := [7]) (by kernel_rfl) (by simp) ?_
        refine AllReadyH.cons (o := ({ dst := some 32, op := Op.buildSlice 118 2 #[(0, Operand.tmp 30), (1, Operand.tmp 31)], type := 118, pos := "data.go:49", after := #[{ on := 5, ground := Ground.data }, { on := 6, ground := Ground.data }, { on := 3, ground := Ground.guard }], guard := some (3, true) })) rfl (fun K hK => ?_) AllReadyH.nil
        go_simp
        skip
        refine hK.out _ _ ?_ (fun hHeld2 => ?_)
        · (try dsimp only)
          exact KL.out _ HBe.out
        clear hK K hHeld
        rename _ => hHeld
        try simp only [Act.put, List.setIfInBounds_toArray, List.set_cons_zero, List.set_cons_succ]
        refine wpAnyH_ready (rs := [8]) (by kernel_rfl) (by simp) ?_
        refine AllReadyH.cons (o := ({ dst := some 33, op := Op.call { callee := Callee.value (Operand.func 40), args := #[Operand.tmp 32], argTypes := #[118] }, type := 24, pos := "data.go:49", after := #[{ on := 7, ground := Ground.data }, { on := 3, ground := Ground.chain }, { on := 3, ground := Ground.guard }], guard := some (3, true) })) rfl (fun K hK => ?_) AllReadyH.nil
        go_simp
        refine (CN.out _).mono ?_
        rintro e wA ⟨v, rfl, HRI, hbA⟩
        obtain ⟨AA, cc, rfl, hcc, hcm⟩ := HRI.out.slice
        have HBA := Lib.hid (below_next HBe.out HBe.out.size hbA)
        have HIA := Lib.hid ((HRI.out.items rfl).more (Nat.zero_le _) (Nat.le_refl _))
        clear hbA HRI
        refine hK.out _ _ ?_ (fun hHeld2 => ?_)
        · (try dsimp only)
          exact KL.out _ HBA.out
        clear hK K hHeld
        rename _ => hHeld
        try simp only [Act.put, List.setIfInBounds_toArray, List.set_cons_zero, List.set_cons_succ]
        refine wpAnyH_ready (rs := [9]) (by kernel_rfl) (by simp) ?_
        refine AllReadyH.cons (o := ({ dst := some 34, op := Op.call { callee := Callee.value (Operand.func 33), args := #[Operand.tmp 33], argTypes := #[24] }, type := 26, pos := "data.go:49", after := #[{ on := 8, ground := Ground.data }, { on := 8, ground := Ground.chain }, { on := 3, ground := Ground.guard }], guard := some (3, true) })) rfl (fun K hK => ?_) AllReadyH.nil
        go_simp
        refine (CL.out wA AA cc hcc hcm HIA.out).mono ?_
        rintro e wB ⟨AB, rfl, HI, hbB⟩
        have HBB := Lib.hid (below_next HBA.out HBA.out.size hbB)
        have HVB := Lib.hid (show ItemV wB 0 wB.heap.size (iL (iN n0) (iN n1)) (.agg #[.int .i64 4, .int .u64 0, .slice none 0 0, .slice AB 2 2]) from item_list (l := [iN n0, iN n1]) (HI.out.more (Nat.zero_le _) (Nat.le_refl _)) rfl (Nat.le_refl _) (by unfold maxLen; omega))
        clear hbB HI HIA
        refine hK.out _ _ ?_ (fun hHeld2 => ?_)
        · (try dsimp only)
          exact KL.out _ HBB.out
        clear hK K hHeld
        rename _ => hHeld
        try simp only [Act.put, List.setIfInBounds_toArray, List.set_cons_zero, List.set_cons_succ]
        refine wpAnyH_ready (rs := [10]) (by kernel_rfl) (by simp) ?_
        refine AllReadyH.cons (o := ({ dst := some 35, op := Op.call { callee := Callee.value (Operand.func 19), args := #[Operand.tmp 29, Operand.tmp 34], argTypes := #[26, 26] }, type := 4, pos := "data.go:49", after := #[{ on := 4, ground := Ground.data }, { on := 9, ground := Ground.data }, { on := 9, ground := Ground.chain }, { on := 3, ground := Ground.guard }], guard := some (3, true) })) rfl (fun K hK => ?_) AllReadyH.nil
        go_simp
        refine (CS.out wB AB 2 (below_next HBw.out HBw.out.size HBB.out) HVB.out).mono ?_
        rintro e wC ⟨rfl, hbC⟩
        have HBC := Lib.hid (below_next HBB.out HBB.out.size hbC)
        clear hbC HVB
        refine hK.out _ _ ?_ (fun hHeld2 => ?_)
        · (try dsimp only)
          exact KL.out _ HBC.out
        clear hK K hHeld
        rename _ => hHeld
        try simp only [Act.put, List.setIfInBounds_toArray, List.set_cons_zero, List.set_cons_succ]
        first
        | (refine wpAnyH_take (i := 11) (oi := ({ dst := some 36, op := Op.pick (Operand.tmp 28) (Operand.tmp 35) (Operand.const (Value.bool false)), type := 4, pos := "data.go:49", after := #[{ on := 3, ground := Ground.data }, { on := 10, ground := Ground.data }], guard := none })) (v := ?_) rfl (by kernel_rfl) (by kernel_rfl) (by kernel_rfl) (fun _ _ _ h => h) (Or.inl ⟨by rfl, ?_⟩) hHeld ?_
           rotate_left
           · intro w hSw
             (try dsimp only at hSw)
             go_simp
             try with_reducible rfl
           try simp only [Act.put, List.setIfInBounds_toArray, List.set_cons_zero, List.set_cons_succ])
        | fail
        first
        | (refine wpAnyH_take (i := 12) (oi := ({ dst := some 37, op := Op.move (Operand.tmp 36), type := 4, pos := "data.go:49", after := #[{ on := 11, ground := Ground.data }, { on := 10, ground := Ground.chain }], guard := none })) (v := ?_) rfl (by kernel_rfl) (by kernel_rfl) (by kernel_rfl) (fun _ _ _ h => h) (Or.inl ⟨by rfl, ?_⟩) hHeld ?_
           rotate_left
           · intro w hSw
             (try dsimp only at hSw)
             go_simp
             try with_reducible rfl
           try simp only [Act.put, List.setIfInBounds_toArray, List.set_cons_zero, List.set_cons_succ])
        | fail
        first
        | (refine wpAnyH_take (i := 13) (oi := ({ dst := some 38, op := Op.move (Operand.tmp 2), type := 22, pos := "data.go:49", after := #[{ on := 12, ground := Ground.guard }], guard := some (12, true) })) (v := undef) rfl (by kernel_rfl) (by kernel_rfl) (by kernel_rfl) (fun _ _ _ h => h) (Or.inr ⟨by rfl, rfl⟩) hHeld ?_
           try simp only [Act.put, List.setIfInBounds_toArray, List.set_cons_zero, List.set_cons_succ])
        | fail
        first
        | (refine wpAnyH_take (i := 14) (oi := ({ dst := some 39, op := Op.call { callee := Callee.value (Operand.func 50), args := #[Operand.tmp 38], argTypes := #[22] }, type := 4, pos := "data.go:49", after := #[{ on := 13, ground := Ground.data }, { on := 12, ground := Ground.chain }, { on := 12, ground := Ground.guard }], guard := some (12, true) })) (v := undef) rfl (by kernel_rfl) (by kernel_rfl) (by kernel_rfl) (fun _ _ _ h => h) (Or.inr ⟨by rfl, rfl⟩) hHeld ?_
           try simp only [Act.put, List.setIfInBounds_toArray, List.set_cons_zero, List.set_cons_succ])
        | fail
        first
        | (refine wpAnyH_take (i := 15) (oi := ({ dst := some 40, op := Op.pick (Operand.tmp 37) (Operand.tmp 39) (Operand.const (Value.bool false)), type := 4, pos := "data.go:49", after := #[{ on := 12, ground := Ground.data }, { on := 14, ground := Ground.data }], guard := none })) (v := ?_) rfl (by kernel_rfl) (by kernel_rfl) (by kernel_rfl) (fun _ _ _ h => h) (Or.inl ⟨by rfl, ?_⟩) hHeld ?_
           rotate_left
           · intro w hSw
             (try dsimp only at hSw)
             go_simp
             try with_reducible rfl
           try simp only [Act.put, List.setIfInBounds_toArray, List.set_cons_zero, List.set_cons_succ])
        | fail
        first
        | (refine wpAnyH_take (i := 16) (oi := ({ dst := some 41, op := Op.move (Operand.tmp 40), type := 4, pos := "data.go:49", after := #[{ on := 15, ground := Ground.data }, { on := 14, ground := Ground.chain }], guard := none })) (v := ?_) rfl (by kernel_rfl) (by kernel_rfl) (by kernel_rfl) (fun _ _ _ h => h) (Or.inl ⟨by rfl, ?_⟩) hHeld ?_
           rotate_left
           · intro w hSw
             (try dsimp only at hSw)
             go_simp
             try with_reducible rfl
           try simp only [Act.put, List.setIfInBounds_toArray, List.set_cons_zero, List.set_cons_succ])
        | fail
        first
        | (refine wpAnyH_take (i := 17) (oi := ({ dst := some 42, op := Op.move (Operand.tmp 3), type := 22, pos := "data.go:49", after := #[{ on := 16, ground := Ground.guard }], guard := some (16, true) })) (v := undef) rfl (by kernel_rfl) (by kernel_rfl) (by kernel_rfl) (fun _ _ _ h => h) (Or.inr ⟨by rfl, rfl⟩) hHeld ?_
           try simp only [Act.put, List.setIfInBounds_toArray, List.set_cons_zero, List.set_cons_succ])
        | fail
        first
        | (refine wpAnyH_take (i := 18) (oi := ({ dst := some 43, op := Op.move (Operand.tmp 2), type := 22, pos := "data.go:49", after := #[{ on := 16, ground := Ground.guard }], guard := some (16, true) })) (v := undef) rfl (by kernel_rfl) (by kernel_rfl) (by kernel_rfl) (fun _ _ _ h => h) (Or.inr ⟨by rfl, rfl⟩) hHeld ?_
           try simp only [Act.put, List.setIfInBounds_toArray, List.set_cons_zero, List.set_cons_succ])
        | fail
        first
        | (refine wpAnyH_take (i := 19) (oi := ({ dst := some 44, op := Op.binOp BinOp.leq 22 (Operand.tmp 42) (Operand.tmp 43) 22, type := 4, pos := "data.go:49", after := #[{ on := 17, ground := Ground.data }, { on := 18, ground := Ground.data }, { on := 16, ground := Ground.guard }, { on := 22, ground := Ground.gcOnly Departure.lateStores }], guard := some (16, true) })) (v := undef) rfl (by kernel_rfl) (by kernel_rfl) (by kernel_rfl) (fun _ _ _ h => h) (Or.inr ⟨by rfl, rfl⟩) hHeld ?_
           try simp only [Act.put, List.setIfInBounds_toArray, List.set_cons_zero, List.set_cons_succ])
        | fail
        first
        | (refine wpAnyH_take (i := 20) (oi := ({ dst := some 45, op := Op.pick (Operand.tmp 41) (Operand.tmp 44) (Operand.const (Value.bool false)), type := 4, pos := "data.go:49", after := #[{ on := 16, ground := Ground.data }, { on := 19, ground := Ground.data }, { on := 22, ground := Ground.gcOnly Departure.lateStores }], guard := none })) (v := ?_) rfl (by kernel_rfl) (by kernel_rfl) (by kernel_rfl) (fun _ _ _ h => h) (Or.inl ⟨by rfl, ?_⟩) hHeld ?_
           rotate_left
           · intro w hSw
             (try dsimp only at hSw)
             go_simp
             try with_reducible rfl
           try simp only [Act.put, List.setIfInBounds_toArray, List.set_cons_zero, List.set_cons_succ])
        | fail
        first
        | (refine wpAnyH_take (i := 21) (oi := ({ dst := some 2, op := Op.assign (Operand.tmp 25), type := 22, pos := "data.go:49", after := #[{ on := 0, ground := Ground.data }, { on := 16, ground := Ground.chain }, { on := 0, ground := Ground.phase }, { on := 1, ground := Ground.textOnly Departure.lateStores }, { on := 2, ground := Ground.textOnly Departure.lateStores }, { on := 3, ground := Ground.textOnly Departure.lateStores }, { on := 4, ground := Ground.textOnly Departure.lateStores }, { on := 5, ground := Ground.phase }, { on := 6, ground := Ground.phase }, { on := 7, ground := Ground.textOnly Departure.lateStores }, { on := 8, ground := Ground.textOnly Departure.lateStoresUnsure }, { on := 9, ground := Ground.textOnly Departure.lateStoresUnsure }, { on := 10, ground := Ground.textOnly Departure.lateStoresUnsure }, { on := 11, ground := Ground.textOnly Departure.lateStores }, { on := 12, ground := Ground.textOnly Departure.lateStores }, { on := 13, ground := Ground.phase }, { on := 14, ground := Ground.textOnly Departure.lateStoresUnsure }, { on := 15, ground := Ground.textOnly Departure.lateStores }, { on := 16, ground := Ground.textOnly Departure.lateStores }, { on := 17, ground := Ground.phase }, { on := 18, ground := Ground.phase }, { on := 19, ground := Ground.textOnly Departure.lateStores }, { on := 20, ground := Ground.textOnly Departure.lateStores }], guard := none })) (v := ?_) rfl (by kernel_rfl) (by kernel_rfl) (by kernel_rfl) (fun _ _ _ h => h) (Or.inl ⟨by rfl, ?_⟩) hHeld ?_
           rotate_left
           · intro w hSw
             (try dsimp only at hSw)
             go_simp
             try with_reducible rfl
           try simp only [Act.put, List.setIfInBounds_toArray, List.set_cons_zero, List.set_cons_succ])
        | fail
        first
        | (refine wpAnyH_take (i := 22) (oi := ({ dst := some 3, op := Op.assign (Operand.tmp 26), type := 22, pos := "data.go:49", after := #[{ on := 1, ground := Ground.data }, { on := 21, ground := Ground.chain }, { on := 0, ground := Ground.phase }, { on := 1, ground := Ground.phase }, { on := 2, ground := Ground.textOnly Departure.lateStores }, { on := 3, ground := Ground.textOnly Departure.lateStores }, { on := 4, ground := Ground.textOnly Departure.lateStores }, { on := 5, ground := Ground.phase }, { on := 6, ground := Ground.phase }, { on := 7, ground := Ground.textOnly Departure.lateStores }, { on := 8, ground := Ground.textOnly Departure.lateStoresUnsure }, { on := 9, ground := Ground.textOnly Departure.lateStoresUnsure }, { on := 10, ground := Ground.textOnly Departure.lateStoresUnsure }, { on := 11, ground := Ground.textOnly Departure.lateStores }, { on := 12, ground := Ground.textOnly Departure.lateStores }, { on := 13, ground := Ground.phase }, { on := 14, ground := Ground.textOnly Departure.lateStoresUnsure }, { on := 15, ground := Ground.textOnly Departure.lateStores }, { on := 16, ground := Ground.textOnly Departure.lateStores }, { on := 17, ground := Ground.phase }, { on := 18, ground := Ground.phase }, { on := 19, ground := Ground.textOnly Departure.lateStores }, { on := 20, ground := Ground.textOnly Departure.lateStores }, { on := 21, ground := Ground.phase }], guard := none })) (v := ?_) rfl (by kernel_rfl) (by kernel_rfl) (by kernel_rfl) (fun _ _ _ h => h) (Or.inl ⟨by rfl, ?_⟩) hHeld ?_
           rotate_left
           · intro w hSw
             (try dsimp only at hSw)
             go_simp
             try with_reducible rfl
           try simp only [Act.put, List.setIfInBounds_toArray, List.set_cons_zero, List.set_cons_succ])
        | fail
        first
        | (refine wpAnyH_take (i := 23) (oi := ({ dst := some 4, op := Op.assign (Operand.tmp 45), type := 4, pos := "data.go:49", after := #[{ on := 20, ground := Ground.data }, { on := 22, ground := Ground.chain }, { on := 0, ground := Ground.phase }, { on := 1, ground := Ground.phase }, { on := 2, ground := Ground.phase }, { on := 3, ground := Ground.phase }, { on := 4, ground := Ground.phase }, { on := 5, ground := Ground.phase }, { on := 6, ground := Ground.phase }, { on := 7, ground := Ground.phase }, { on := 8, ground := Ground.phase }, { on := 9, ground := Ground.phase }, { on := 10, ground := Ground.phase }, { on := 11, ground := Ground.phase }, { on := 12, ground := Ground.phase }, { on := 13, ground := Ground.phase }, { on := 14, ground := Ground.phase }, { on := 15, ground := Ground.phase }, { on := 16, ground := Ground.phase }, { on := 17, ground := Ground.phase }, { on := 18, ground := Ground.phase }, { on := 19, ground := Ground.phase }, { on := 20, ground := Ground.phase }, { on := 21, ground := Ground.phase }, { on := 22, ground := Ground.phase }], guard := none })) (v := ?_) rfl (by kernel_rfl) (by kernel_rfl) (by kernel_rfl) (fun _ _ _ h => h) (Or.inl ⟨by rfl, ?_⟩) hHeld ?_
           rotate_left
           · intro w hSw
             (try dsimp only at hSw)
             go_simp
             try with_reducible rfl
           try simp only [Act.put, List.setIfInBounds_toArray, List.set_cons_zero, List.set_cons_succ])
        | fail
        refine wpAnyH_done (by kernel_rfl) ?_ _
        go_wp2_with fail
        exact bodyPost_ret (v := .tuple #[.int .u64 n0, .int .u64 n1, .bool false]) (by simp [results, Tryd.results49, go_sem]) rfl (HF.out _ _ rfl HBC.out)
      · cases h1 : (decide (1 ≤ n0) && decide (n0 ≤ 255))
        · have hff := HF.out false
          rw [h1] at hff
          have HFF := Lib.hid hff
          clear hff HF
          refine wp_region_held_drew (S := (fun w' => w'.cell? ⟨w1.heap.size, 0, none⟩ = some (.int .i64 kk) ∧ w'.cell? ⟨w1.heap.size, 1, none⟩ = some (.int .u64 zn) ∧ w'.cell? ⟨w1.heap.size, 2, none⟩ = some (.slice A1 bl c1) ∧ w'.cell? ⟨w1.heap.size, 3, none⟩ = some (.slice (some ⟨b, o, none⟩) 2 c2))) (by kernel_rfl) (KL.out _ HBd.out) (fun hHeld => ?_)
          first
          | (refine wpAnyH_take (i := 0) (oi := ({ dst := some 25, op := Op.move (Operand.tmp 2), type := 22, pos := "data.go:49", after := #[], guard := none })) (v := ?_) rfl (by kernel_rfl) (by kernel_rfl) (by kernel_rfl) (fun _ _ _ h => h) (Or.inl ⟨by rfl, ?_⟩) hHeld ?_
             rotate_left
             · intro w hSw
               (try dsimp only at hSw)
               go_simp
               try with_reducible rfl
             try simp only [Act.put, List.setIfInBounds_toArray, List.set_cons_zero, List.set_cons_succ])
          | fail
          first
          | (refine wpAnyH_take (i := 1) (oi := ({ dst := some 26, op := Op.move (Operand.tmp 3), type := 22, pos := "data.go:49", after := #[{ on := 21, ground := Ground.gcOnly Departure.lateStores }], guard := none })) (v := ?_) rfl (by kernel_rfl) (by kernel_rfl) (by kernel_rfl) (fun _ _ _ h => h) (Or.inl ⟨by rfl, ?_⟩) hHeld ?_
             rotate_left
             · intro w hSw
               (try dsimp only at hSw)
               go_simp
               try with_reducible rfl
             try simp only [Act.put, List.setIfInBounds_toArray, List.set_cons_zero, List.set_cons_succ])
          | fail
          first
          | (refine wpAnyH_take (i := 2) (oi := ({ dst := some 27, op := Op.move (Operand.tmp 4), type := 4, pos := "data.go:49", after := #[], guard := none })) (v := ?_) rfl (by kernel_rfl) (by kernel_rfl) (by kernel_rfl) (fun _ _ _ h => h) (Or.inl ⟨by rfl, ?_⟩) hHeld ?_
             rotate_left
             · intro w hSw
               (try dsimp only at hSw)
               go_simp
               try with_reducible rfl
             try simp only [Act.put, List.setIfInBounds_toArray, List.set_cons_zero, List.set_cons_succ])
          | fail
          first
          | (refine wpAnyH_take (i := 3) (oi := ({ dst := some 28, op := Op.move (Operand.tmp 27), type := 4, pos := "data.go:49", after := #[{ on := 2, ground := Ground.data }], guard := none })) (v := ?_) rfl (by kernel_rfl) (by kernel_rfl) (by kernel_rfl) (fun _ _ _ h => h) (Or.inl ⟨by rfl, ?_⟩) hHeld ?_
             rotate_left
             · intro w hSw
               (try dsimp only at hSw)
               go_simp
               try with_reducible rfl
             try simp only [Act.put, List.setIfInBounds_toArray, List.set_cons_zero, List.set_cons_succ])
          | fail
          first
          | (refine wpAnyH_take (i := 4) (oi := ({ dst := some 29, op := Op.load 26 (Operand.tmp 5), type := 26, pos := "data.go:49", after := #[{ on := 3, ground := Ground.guard }], guard := some (3, true) })) (v := ?_) rfl (by kernel_rfl) (by kernel_rfl) (by kernel_rfl) (fun _ _ _ h => h) (Or.inl ⟨by rfl, ?_⟩) hHeld ?_
             rotate_left
             · intro w hSw
               (try dsimp only at hSw)
               go_simp
               try with_reducible rfl
             try simp only [Act.put, List.setIfInBounds_toArray, List.set_cons_zero, List.set_cons_succ])
          | fail
          first
          | (refine wpAnyH_take (i := 5) (oi := ({ dst := some 30, op := Op.move (Operand.tmp 2), type := 22, pos := "data.go:49", after := #[{ on := 3, ground := Ground.guard }], guard := some (3, true) })) (v := ?_) rfl (by kernel_rfl) (by kernel_rfl) (by kernel_rfl) (fun _ _ _ h => h) (Or.inl ⟨by rfl, ?_⟩) hHeld ?_
             rotate_left
             · intro w hSw
               (try dsimp only at hSw)
               go_simp
               try with_reducible rfl
             try simp only [Act.put, List.setIfInBounds_toArray, List.set_cons_zero, List.set_cons_succ])
          | fail
          first
          | (refine wpAnyH_take (i := 6) (oi := ({ dst := some 31, op := Op.move (Operand.tmp 3), type := 22, pos := "data.go:49", after := #[{ on := 3, ground := Ground.guard }], guard := some (3, true) })) (v := ?_) rfl (by kernel_rfl) (by kernel_rfl) (by kernel_rfl) (fun _ _ _ h => h) (Or.inl ⟨by rfl, ?_⟩) hHeld ?_
             rotate_left
             · intro w hSw
               (try dsimp only at hSw)
               go_simp
               try with_reducible rfl
             try simp only [Act.put, List.setIfInBounds_toArray, List.set_cons_zero, List.set_cons_succ])
          | fail
          refine wpAnyH_ready (rs := [7]) (by kernel_rfl) (by simp) ?_
          refine AllReadyH.cons (o := ({ dst := some 32, op := Op.buildSlice 118 2 #[(0, Operand.tmp 30), (1, Operand.tmp 31)], type := 118, pos := "data.go:49", after := #[{ on := 5, ground := Ground.data }, { on := 6, ground := Ground.data }, { on := 3, ground := Ground.guard }], guard := some (3, true) })) rfl (fun K hK => ?_) AllReadyH.nil
          go_simp
          skip
          refine hK.out _ _ ?_ (fun hHeld2 => ?_)
          · (try dsimp only)
            exact KL.out _ HBe.out
          clear hK K hHeld
          rename _ => hHeld
          try simp only [Act.put, List.setIfInBounds_toArray, List.set_cons_zero, List.set_cons_succ]
          refine wpAnyH_ready (rs := [8]) (by kernel_rfl) (by simp) ?_
          refine AllReadyH.cons (o := ({ dst := some 33, op := Op.call { callee := Callee.value (Operand.func 40), args := #[Operand.tmp 32], argTypes := #[118] }, type := 24, pos := "data.go:49", after := #[{ on := 7, ground := Ground.data }, { on := 3, ground := Ground.chain }, { on := 3, ground := Ground.guard }], guard := some (3, true) })) rfl (fun K hK => ?_) AllReadyH.nil
          go_simp
          refine (CN.out _).mono ?_
          rintro e wA ⟨v, rfl, HRI, hbA⟩
          obtain ⟨AA, cc, rfl, hcc, hcm⟩ := HRI.out.slice
          have HBA := Lib.hid (below_next HBe.out HBe.out.size hbA)
          have HIA := Lib.hid ((HRI.out.items rfl).more (Nat.zero_le _) (Nat.le_refl _))
          clear hbA HRI
          refine hK.out _ _ ?_ (fun hHeld2 => ?_)
          · (try dsimp only)
            exact KL.out _ HBA.out
          clear hK K hHeld
          rename _ => hHeld
          try simp only [Act.put, List.setIfInBounds_toArray, List.set_cons_zero, List.set_cons_succ]
          refine wpAnyH_ready (rs := [9]) (by kernel_rfl) (by simp) ?_
          refine AllReadyH.cons (o := ({ dst := some 34, op := Op.call { callee := Callee.value (Operand.func 33), args := #[Operand.tmp 33], argTypes := #[24] }, type := 26, pos := "data.go:49", after := #[{ on := 8, ground := Ground.data }, { on := 8, ground := Ground.chain }, { on := 3, ground := Ground.guard }], guard := some (3, true) })) rfl (fun K hK => ?_) AllReadyH.nil
          go_simp
          refine (CL.out wA AA cc hcc hcm HIA.out).mono ?_
          rintro e wB ⟨AB, rfl, HI, hbB⟩
          have HBB := Lib.hid (below_next HBA.out HBA.out.size hbB)
          have HVB := Lib.hid (show ItemV wB 0 wB.heap.size (iL (iN n0) (iN n1)) (.agg #[.int .i64 4, .int .u64 0, .slice none 0 0, .slice AB 2 2]) from item_list (l := [iN n0, iN n1]) (HI.out.more (Nat.zero_le _) (Nat.le_refl _)) rfl (Nat.le_refl _) (by unfold maxLen; omega))
          clear hbB HI HIA
          refine hK.out _ _ ?_ (fun hHeld2 => ?_)
          · (try dsimp only)
            exact KL.out _ HBB.out
          clear hK K hHeld
          rename _ => hHeld
          try simp only [Act.put, List.setIfInBounds_toArray, List.set_cons_zero, List.set_cons_succ]
          refine wpAnyH_ready (rs := [10]) (by kernel_rfl) (by simp) ?_
          refine AllReadyH.cons (o := ({ dst := some 35, op := Op.call { callee := Callee.value (Operand.func 19), args := #[Operand.tmp 29, Operand.tmp 34], argTypes := #[26, 26] }, type := 4, pos := "data.go:49", after := #[{ on := 4, ground := Ground.data }, { on := 9, ground := Ground.data }, { on := 9, ground := Ground.chain }, { on := 3, ground := Ground.guard }], guard := some (3, true) })) rfl (fun K hK => ?_) AllReadyH.nil
          go_simp
          refine (CS.out wB AB 2 (below_next HBw.out HBw.out.size HBB.out) HVB.out).mono ?_
          rintro e wC ⟨rfl, hbC⟩
          have HBC := Lib.hid (below_next HBB.out HBB.out.size hbC)
          clear hbC HVB
          refine hK.out _ _ ?_ (fun hHeld2 => ?_)
          · (try dsimp only)
            exact KL.out _ HBC.out
          clear hK K hHeld
          rename _ => hHeld
          try simp only [Act.put, List.setIfInBounds_toArray, List.set_cons_zero, List.set_cons_succ]
          first
          | (refine wpAnyH_take (i := 11) (oi := ({ dst := some 36, op := Op.pick (Operand.tmp 28) (Operand.tmp 35) (Operand.const (Value.bool false)), type := 4, pos := "data.go:49", after := #[{ on := 3, ground := Ground.data }, { on := 10, ground := Ground.data }], guard := none })) (v := ?_) rfl (by kernel_rfl) (by kernel_rfl) (by kernel_rfl) (fun _ _ _ h => h) (Or.inl ⟨by rfl, ?_⟩) hHeld ?_
             rotate_left
             · intro w hSw
               (try dsimp only at hSw)
               go_simp
               try with_reducible rfl
             try simp only [Act.put, List.setIfInBounds_toArray, List.set_cons_zero, List.set_cons_succ])
          | fail
          first
          | (refine wpAnyH_take (i := 12) (oi := ({ dst := some 37, op := Op.move (Operand.tmp 36), type := 4, pos := "data.go:49", after := #[{ on := 11, ground := Ground.data }, { on := 10, ground := Ground.chain }], guard := none })) (v := ?_) rfl (by kernel_rfl) (by kernel_rfl) (by kernel_rfl) (fun _ _ _ h => h) (Or.inl ⟨by rfl, ?_⟩) hHeld ?_
             rotate_left
             · intro w hSw
               (try dsimp only at hSw)
               go_simp
               try with_reducible rfl
             try simp only [Act.put, List.setIfInBounds_toArray, List.set_cons_zero, List.set_cons_succ])
          | fail
          first
          | (refine wpAnyH_take (i := 13) (oi := ({ dst := some 38, op := Op.move (Operand.tmp 2), type := 22, pos := "data.go:49", after := #[{ on := 12, ground := Ground.guard }], guard := some (12, true) })) (v := ?_) rfl (by kernel_rfl) (by kernel_rfl) (by kernel_rfl) (fun _ _ _ h => h) (Or.inl ⟨by rfl, ?_⟩) hHeld ?_
             rotate_left
             · intro w hSw
               (try dsimp only at hSw)
               go_simp
               try with_reducible rfl
             try simp only [Act.put, List.setIfInBounds_toArray, List.set_cons_zero, List.set_cons_succ])
          | fail
          refine wpAnyH_ready (rs := [14]) (by kernel_rfl) (by simp) ?_
          refine AllReadyH.cons (o := ({ dst := some 39, op := Op.call { callee := Callee.value (Operand.func 50), args := #[Operand.tmp 38], argTypes := #[22] }, type := 4, pos := "data.go:49", after := #[{ on := 13, ground := Ground.data }, { on := 12, ground := Ground.chain }, { on := 12, ground := Ground.guard }], guard := some (12, true) })) rfl (fun K hK => ?_) AllReadyH.nil
          go_simp
          refine (fromOne_any n0 _).mono ?_
          rintro e wD ⟨rfl, rfl⟩
          rw [h1]
          refine hK.out _ _ ?_ (fun hHeld2 => ?_)
          · (try dsimp only)
            exact KL.out _ HBC.out
          clear hK K hHeld
          rename _ => hHeld
          try simp only [Act.put, List.setIfInBounds_toArray, List.set_cons_zero, List.set_cons_succ]
          first
          | (refine wpAnyH_take (i := 15) (oi := ({ dst := some 40, op := Op.pick (Operand.tmp 37) (Operand.tmp 39) (Operand.const (Value.bool false)), type := 4, pos := "data.go:49", after := #[{ on := 12, ground := Ground.data }, { on := 14, ground := Ground.data }], guard := none })) (v := ?_) rfl (by kernel_rfl) (by kernel_rfl) (by kernel_rfl) (fun _ _ _ h => h) (Or.inl ⟨by rfl, ?_⟩) hHeld ?_
             rotate_left
             · intro w hSw
               (try dsimp only at hSw)
               go_simp
               try with_reducible rfl
             try simp only [Act.put, List.setIfInBounds_toArray, List.set_cons_zero, List.set_cons_succ])
          | fail
          first
          | (refine wpAnyH_take (i := 16) (oi := ({ dst := some 41, op := Op.move (Operand.tmp 40), type := 4, pos := "data.go:49", after := #[{ on := 15, ground := Ground.data }, { on := 14, ground := Ground.chain }], guard := none })) (v := ?_) rfl (by kernel_rfl) (by kernel_rfl) (by kernel_rfl) (fun _ _ _ h => h) (Or.inl ⟨by rfl, ?_⟩) hHeld ?_
             rotate_left
             · intro w hSw
               (try dsimp only at hSw)
               go_simp
               try with_reducible rfl
             try simp only [Act.put, List.setIfInBounds_toArray, List.set_cons_zero, List.set_cons_succ])
          | fail
          first
          | (refine wpAnyH_take (i := 17) (oi := ({ dst := some 42, op := Op.move (Operand.tmp 3), type := 22, pos := "data.go:49", after := #[{ on := 16, ground := Ground.guard }], guard := some (16, true) })) (v := undef) rfl (by kernel_rfl) (by kernel_rfl) (by kernel_rfl) (fun _ _ _ h => h) (Or.inr ⟨by rfl, rfl⟩) hHeld ?_
             try simp only [Act.put, List.setIfInBounds_toArray, List.set_cons_zero, List.set_cons_succ])
          | fail
          first
          | (refine wpAnyH_take (i := 18) (oi := ({ dst := some 43, op := Op.move (Operand.tmp 2), type := 22, pos := "data.go:49", after := #[{ on := 16, ground := Ground.guard }], guard := some (16, true) })) (v := undef) rfl (by kernel_rfl) (by kernel_rfl) (by kernel_rfl) (fun _ _ _ h => h) (Or.inr ⟨by rfl, rfl⟩) hHeld ?_
             try simp only [Act.put, List.setIfInBounds_toArray, List.set_cons_zero, List.set_cons_succ])
          | fail
          first
          | (refine wpAnyH_take (i := 19) (oi := ({ dst := some 44, op := Op.binOp BinOp.leq 22 (Operand.tmp 42) (Operand.tmp 43) 22, type := 4, pos := "data.go:49", after := #[{ on := 17, ground := Ground.data }, { on := 18, ground := Ground.data }, { on := 16, ground := Ground.guard }, { on := 22, ground := Ground.gcOnly Departure.lateStores }], guard := some (16, true) })) (v := undef) rfl (by kernel_rfl) (by kernel_rfl) (by kernel_rfl) (fun _ _ _ h => h) (Or.inr ⟨by rfl, rfl⟩) hHeld ?_
             try simp only [Act.put, List.setIfInBounds_toArray, List.set_cons_zero, List.set_cons_succ])
          | fail
          first
          | (refine wpAnyH_take (i := 20) (oi := ({ dst := some 45, op := Op.pick (Operand.tmp 41) (Operand.tmp 44) (Operand.const (Value.bool false)), type := 4, pos := "data.go:49", after := #[{ on := 16, ground := Ground.data }, { on := 19, ground := Ground.data }, { on := 22, ground := Ground.gcOnly Departure.lateStores }], guard := none })) (v := ?_) rfl (by kernel_rfl) (by kernel_rfl) (by kernel_rfl) (fun _ _ _ h => h) (Or.inl ⟨by rfl, ?_⟩) hHeld ?_
             rotate_left
             · intro w hSw
               (try dsimp only at hSw)
               go_simp
               try with_reducible rfl
             try simp only [Act.put, List.setIfInBounds_toArray, List.set_cons_zero, List.set_cons_succ])
          | fail
          first
          | (refine wpAnyH_take (i := 21) (oi := ({ dst := some 2, op := Op.assign (Operand.tmp 25), type := 22, pos := "data.go:49", after := #[{ on := 0, ground := Ground.data }, { on := 16, ground := Ground.chain }, { on := 0, ground := Ground.phase }, { on := 1, ground := Ground.textOnly Departure.lateStores }, { on := 2, ground := Ground.textOnly Departure.lateStores }, { on := 3, ground := Ground.textOnly Departure.lateStores }, { on := 4, ground := Ground.textOnly Departure.lateStores }, { on := 5, ground := Ground.phase }, { on := 6, ground := Ground.phase }, { on := 7, ground := Ground.textOnly Departure.lateStores }, { on := 8, ground := Ground.textOnly Departure.lateStoresUnsure }, { on := 9, ground := Ground.textOnly Departure.lateStoresUnsure }, { on := 10, ground := Ground.textOnly Departure.lateStoresUnsure }, { on := 11, ground := Ground.textOnly Departure.lateStores }, { on := 12, ground := Ground.textOnly Departure.lateStores }, { on := 13, ground := Ground.phase }, { on := 14, ground := Ground.textOnly Departure.lateStoresUnsure }, { on := 15, ground := Ground.textOnly Departure.lateStores }, { on := 16, ground := Ground.textOnly Departure.lateStores }, { on := 17, ground := Ground.phase }, { on := 18, ground := Ground.phase }, { on := 19, ground := Ground.textOnly Departure.lateStores }, { on := 20, ground := Ground.textOnly Departure.lateStores }], guard := none })) (v := ?_) rfl (by kernel_rfl) (by kernel_rfl) (by kernel_rfl) (fun _ _ _ h => h) (Or.inl ⟨by rfl, ?_⟩) hHeld ?_
             rotate_left
             · intro w hSw
               (try dsimp only at hSw)
               go_simp
               try with_reducible rfl
             try simp only [Act.put, List.setIfInBounds_toArray, List.set_cons_zero, List.set_cons_succ])
          | fail
          first
          | (refine wpAnyH_take (i := 22) (oi := ({ dst := some 3, op := Op.assign (Operand.tmp 26), type := 22, pos := "data.go:49", after := #[{ on := 1, ground := Ground.data }, { on := 21, ground := Ground.chain }, { on := 0, ground := Ground.phase }, { on := 1, ground := Ground.phase }, { on := 2, ground := Ground.textOnly Departure.lateStores }, { on := 3, ground := Ground.textOnly Departure.lateStores }, { on := 4, ground := Ground.textOnly Departure.lateStores }, { on := 5, ground := Ground.phase }, { on := 6, ground := Ground.phase }, { on := 7, ground := Ground.textOnly Departure.lateStores }, { on := 8, ground := Ground.textOnly Departure.lateStoresUnsure }, { on := 9, ground := Ground.textOnly Departure.lateStoresUnsure }, { on := 10, ground := Ground.textOnly Departure.lateStoresUnsure }, { on := 11, ground := Ground.textOnly Departure.lateStores }, { on := 12, ground := Ground.textOnly Departure.lateStores }, { on := 13, ground := Ground.phase }, { on := 14, ground := Ground.textOnly Departure.lateStoresUnsure }, { on := 15, ground := Ground.textOnly Departure.lateStores }, { on := 16, ground := Ground.textOnly Departure.lateStores }, { on := 17, ground := Ground.phase }, { on := 18, ground := Ground.phase }, { on := 19, ground := Ground.textOnly Departure.lateStores }, { on := 20, ground := Ground.textOnly Departure.lateStores }, { on := 21, ground := Ground.phase }], guard := none })) (v := ?_) rfl (by kernel_rfl) (by kernel_rfl) (by kernel_rfl) (fun _ _ _ h => h) (Or.inl ⟨by rfl, ?_⟩) hHeld ?_
             rotate_left
             · intro w hSw
               (try dsimp only at hSw)
               go_simp
               try with_reducible rfl
             try simp only [Act.put, List.setIfInBounds_toArray, List.set_cons_zero, List.set_cons_succ])
          | fail
          first
          | (refine wpAnyH_take (i := 23) (oi := ({ dst := some 4, op := Op.assign (Operand.tmp 45), type := 4, pos := "data.go:49", after := #[{ on := 20, ground := Ground.data }, { on := 22, ground := Ground.chain }, { on := 0, ground := Ground.phase }, { on := 1, ground := Ground.phase }, { on := 2, ground := Ground.phase }, { on := 3, ground := Ground.phase }, { on := 4, ground := Ground.phase }, { on := 5, ground := Ground.phase }, { on := 6, ground := Ground.phase }, { on := 7, ground := Ground.phase }, { on := 8, ground := Ground.phase }, { on := 9, ground := Ground.phase }, { on := 10, ground := Ground.phase }, { on := 11, ground := Ground.phase }, { on := 12, ground := Ground.phase }, { on := 13, ground := Ground.phase }, { on := 14, ground := Ground.phase }, { on := 15, ground := Ground.phase }, { on := 16, ground := Ground.phase }, { on := 17, ground := Ground.phase }, { on := 18, ground := Ground.phase }, { on := 19, ground := Ground.phase }, { on := 20, ground := Ground.phase }, { on := 21, ground := Ground.phase }, { on := 22, ground := Ground.phase }], guard := none })) (v := ?_) rfl (by kernel_rfl) (by kernel_rfl) (by kernel_rfl) (fun _ _ _ h => h) (Or.inl ⟨by rfl, ?_⟩) hHeld ?_
             rotate_left
             · intro w hSw
               (try dsimp only at hSw)
               go_simp
               try with_reducible rfl
             try simp only [Act.put, List.setIfInBounds_toArray, List.set_cons_zero, List.set_cons_succ])
          | fail
          refine wpAnyH_done (by kernel_rfl) ?_ _
          go_wp2_with fail
          exact bodyPost_ret (v := .tuple #[.int .u64 n0, .int .u64 n1, .bool false]) (by simp [results, Tryd.results49, go_sem]) rfl (HFF.out _ rfl HBC.out)
        · have hff := HF.out (decide (n1 ≤ n0))
          rw [h1] at hff
          have HFF := Lib.hid hff
          clear hff HF
          refine wp_region_held_drew (S := (fun w' => w'.cell? ⟨w1.heap.size, 0, none⟩ = some (.int .i64 kk) ∧ w'.cell? ⟨w1.heap.size, 1, none⟩ = some (.int .u64 zn) ∧ w'.cell? ⟨w1.heap.size, 2, none⟩ = some (.slice A1 bl c1) ∧ w'.cell? ⟨w1.heap.size, 3, none⟩ = some (.slice (some ⟨b, o, none⟩) 2 c2))) (by kernel_rfl) (KL.out _ HBd.out) (fun hHeld => ?_)
          first
          | (refine wpAnyH_take (i := 0) (oi := ({ dst := some 25, op := Op.move (Operand.tmp 2), type := 22, pos := "data.go:49", after := #[], guard := none })) (v := ?_) rfl (by kernel_rfl) (by kernel_rfl) (by kernel_rfl) (fun _ _ _ h => h) (Or.inl ⟨by rfl, ?_⟩) hHeld ?_
             rotate_left
             · intro w hSw
               (try dsimp only at hSw)
               go_simp
               try with_reducible rfl
             try simp only [Act.put, List.setIfInBounds_toArray, List.set_cons_zero, List.set_cons_succ])
          | fail
          first
          | (refine wpAnyH_take (i := 1) (oi := ({ dst := some 26, op := Op.move (Operand.tmp 3), type := 22, pos := "data.go:49", after := #[{ on := 21, ground := Ground.gcOnly Departure.lateStores }], guard := none })) (v := ?_) rfl (by kernel_rfl) (by kernel_rfl) (by kernel_rfl) (fun _ _ _ h => h) (Or.inl ⟨by rfl, ?_⟩) hHeld ?_
             rotate_left
             · intro w hSw
               (try dsimp only at hSw)
               go_simp
               try with_reducible rfl
             try simp only [Act.put, List.setIfInBounds_toArray, List.set_cons_zero, List.set_cons_succ])
          | fail
          first
          | (refine wpAnyH_take (i := 2) (oi := ({ dst := some 27, op := Op.move (Operand.tmp 4), type := 4, pos := "data.go:49", after := #[], guard := none })) (v := ?_) rfl (by kernel_rfl) (by kernel_rfl) (by kernel_rfl) (fun _ _ _ h => h) (Or.inl ⟨by rfl, ?_⟩) hHeld ?_
             rotate_left
             · intro w hSw
               (try dsimp only at hSw)
               go_simp
               try with_reducible rfl
             try simp only [Act.put, List.setIfInBounds_toArray, List.set_cons_zero, List.set_cons_succ])
          | fail
          first
          | (refine wpAnyH_take (i := 3) (oi := ({ dst := some 28, op := Op.move (Operand.tmp 27), type := 4, pos := "data.go:49", after := #[{ on := 2, ground := Ground.data }], guard := none })) (v := ?_) rfl (by kernel_rfl) (by kernel_rfl) (by kernel_rfl) (fun _ _ _ h => h) (Or.inl ⟨by rfl, ?_⟩) hHeld ?_
             rotate_left
             · intro w hSw
               (try dsimp only at hSw)
               go_simp
               try with_reducible rfl
             try simp only [Act.put, List.setIfInBounds_toArray, List.set_cons_zero, List.set_cons_succ])
          | fail
          first
          | (refine wpAnyH_take (i := 4) (oi := ({ dst := some 29, op := Op.load 26 (Operand.tmp 5), type := 26, pos := "data.go:49", after := #[{ on := 3, ground := Ground.guard }], guard := some (3, true) })) (v := ?_) rfl (by kernel_rfl) (by kernel_rfl) (by kernel_rfl) (fun _ _ _ h => h) (Or.inl ⟨by rfl, ?_⟩) hHeld ?_
             rotate_left
             · intro w hSw
               (try dsimp only at hSw)
               go_simp
               try with_reducible rfl
             try simp only [Act.put, List.setIfInBounds_toArray, List.set_cons_zero, List.set_cons_succ])
          | fail
          first
          | (refine wpAnyH_take (i := 5) (oi := ({ dst := some 30, op := Op.move (Operand.tmp 2), type := 22, pos := "data.go:49", after := #[{ on := 3, ground := Ground.guard }], guard := some (3, true) })) (v := ?_) rfl (by kernel_rfl) (by kernel_rfl) (by kernel_rfl) (fun _ _ _ h => h) (Or.inl ⟨by rfl, ?_⟩) hHeld ?_
             rotate_left
             · intro w hSw
               (try dsimp only at hSw)
               go_simp
               try with_reducible rfl
             try simp only [Act.put, List.setIfInBounds_toArray, List.set_cons_zero, List.set_cons_succ])
          | fail
          first
          | (refine wpAnyH_take (i := 6) (oi := ({ dst := some 31, op := Op.move (Operand.tmp 3), type := 22, pos := "data.go:49", after := #[{ on := 3, ground := Ground.guard }], guard := some (3, true) })) (v := ?_) rfl (by kernel_rfl) (by kernel_rfl) (by kernel_rfl) (fun _ _ _ h => h) (Or.inl ⟨by rfl, ?_⟩) hHeld ?_
             rotate_left
             · intro w hSw
               (try dsimp only at hSw)
               go_simp
               try with_reducible rfl
             try simp only [Act.put, List.setIfInBounds_toArray, List.set_cons_zero, List.set_cons_succ])
          | fail
          refine wpAnyH_ready (rs := [7]) (by kernel_rfl) (by simp) ?_
          refine AllReadyH.cons (o := ({ dst := some 32, op := Op.buildSlice 118 2 #[(0, Operand.tmp 30), (1, Operand.tmp 31)], type := 118, pos := "data.go:49", after := #[{ on := 5, ground := Ground.data }, { on := 6, ground := Ground.data }, { on := 3, ground := Ground.guard }], guard := some (3, true) })) rfl (fun K hK => ?_) AllReadyH.nil
          go_simp
          skip
          refine hK.out _ _ ?_ (fun hHeld2 => ?_)
          · (try dsimp only)
            exact KL.out _ HBe.out
          clear hK K hHeld
          rename _ => hHeld
          try simp only [Act.put, List.setIfInBounds_toArray, List.set_cons_zero, List.set_cons_succ]
          refine wpAnyH_ready (rs := [8]) (by kernel_rfl) (by simp) ?_
          refine AllReadyH.cons (o := ({ dst := some 33, op := Op.call { callee := Callee.value (Operand.func 40), args := #[Operand.tmp 32], argTypes := #[118] }, type := 24, pos := "data.go:49", after := #[{ on := 7, ground := Ground.data }, { on := 3, ground := Ground.chain }, { on := 3, ground := Ground.guard }], guard := some (3, true) })) rfl (fun K hK => ?_) AllReadyH.nil
          go_simp
          refine (CN.out _).mono ?_
          rintro e wA ⟨v, rfl, HRI, hbA⟩
          obtain ⟨AA, cc, rfl, hcc, hcm⟩ := HRI.out.slice
          have HBA := Lib.hid (below_next HBe.out HBe.out.size hbA)
          have HIA := Lib.hid ((HRI.out.items rfl).more (Nat.zero_le _) (Nat.le_refl _))
          clear hbA HRI
          refine hK.out _ _ ?_ (fun hHeld2 => ?_)
          · (try dsimp only)
            exact KL.out _ HBA.out
          clear hK K hHeld
          rename _ => hHeld
          try simp only [Act.put, List.setIfInBounds_toArray, List.set_cons_zero, List.set_cons_succ]
          refine wpAnyH_ready (rs := [9]) (by kernel_rfl) (by simp) ?_
          refine AllReadyH.cons (o := ({ dst := some 34, op := Op.call { callee := Callee.value (Operand.func 33), args := #[Operand.tmp 33], argTypes := #[24] }, type := 26, pos := "data.go:49", after := #[{ on := 8, ground := Ground.data }, { on := 8, ground := Ground.chain }, { on := 3, ground := Ground.guard }], guard := some (3, true) })) rfl (fun K hK => ?_) AllReadyH.nil
          go_simp
          refine (CL.out wA AA cc hcc hcm HIA.out).mono ?_
          rintro e wB ⟨AB, rfl, HI, hbB⟩
          have HBB := Lib.hid (below_next HBA.out HBA.out.size hbB)
          have HVB := Lib.hid (show ItemV wB 0 wB.heap.size (iL (iN n0) (iN n1)) (.agg #[.int .i64 4, .int .u64 0, .slice none 0 0, .slice AB 2 2]) from item_list (l := [iN n0, iN n1]) (HI.out.more (Nat.zero_le _) (Nat.le_refl _)) rfl (Nat.le_refl _) (by unfold maxLen; omega))
          clear hbB HI HIA
          refine hK.out _ _ ?_ (fun hHeld2 => ?_)
          · (try dsimp only)
            exact KL.out _ HBB.out
          clear hK K hHeld
          rename _ => hHeld
          try simp only [Act.put, List.setIfInBounds_toArray, List.set_cons_zero, List.set_cons_succ]
          refine wpAnyH_ready (rs := [10]) (by kernel_rfl) (by simp) ?_
          refine AllReadyH.cons (o := ({ dst := some 35, op := Op.call { callee := Callee.value (Operand.func 19), args := #[Operand.tmp 29, Operand.tmp 34], argTypes := #[26, 26] }, type := 4, pos := "data.go:49", after := #[{ on := 4, ground := Ground.data }, { on := 9, ground := Ground.data }, { on := 9, ground := Ground.chain }, { on := 3, ground := Ground.guard }], guard := some (3, true) })) rfl (fun K hK => ?_) AllReadyH.nil
          go_simp
          refine (CS.out wB AB 2 (below_next HBw.out HBw.out.size HBB.out) HVB.out).mono ?_
          rintro e wC ⟨rfl, hbC⟩
          have HBC := Lib.hid (below_next HBB.out HBB.out.size hbC)
          clear hbC HVB
          refine hK.out _ _ ?_ (fun hHeld2 => ?_)
          · (try dsimp only)
            exact KL.out _ HBC.out
          clear hK K hHeld
          rename _ => hHeld
          try simp only [Act.put, List.setIfInBounds_toArray, List.set_cons_zero, List.set_cons_succ]
          first
          | (refine wpAnyH_take (i := 11) (oi := ({ dst := some 36, op := Op.pick (Operand.tmp 28) (Operand.tmp 35) (Operand.const (Value.bool false)), type := 4, pos := "data.go:49", after := #[{ on := 3, ground := Ground.data }, { on := 10, ground := Ground.data }], guard := none })) (v := ?_) rfl (by kernel_rfl) (by kernel_rfl) (by kernel_rfl) (fun _ _ _ h => h) (Or.inl ⟨by rfl, ?_⟩) hHeld ?_
             rotate_left
             · intro w hSw
               (try dsimp only at hSw)
               go_simp
               try with_reducible rfl
             try simp only [Act.put, List.setIfInBounds_toArray, List.set_cons_zero, List.set_cons_succ])
          | fail
          first
          | (refine wpAnyH_take (i := 12) (oi := ({ dst := some 37, op := Op.move (Operand.tmp 36), type := 4, pos := "data.go:49", after := #[{ on := 11, ground := Ground.data }, { on := 10, ground := Ground.chain }], guard := none })) (v := ?_) rfl (by kernel_rfl) (by kernel_rfl) (by kernel_rfl) (fun _ _ _ h => h) (Or.inl ⟨by rfl, ?_⟩) hHeld ?_
             rotate_left
             · intro w hSw
               (try dsimp only at hSw)
               go_simp
               try with_reducible rfl
             try simp only [Act.put, List.setIfInBounds_toArray, List.set_cons_zero, List.set_cons_succ])
          | fail
          first
          | (refine wpAnyH_take (i := 13) (oi := ({ dst := some 38, op := Op.move (Operand.tmp 2), type := 22, pos := "data.go:49", after := #[{ on := 12, ground := Ground.guard }], guard := some (12, true) })) (v := ?_) rfl (by kernel_rfl) (by kernel_rfl) (by kernel_rfl) (fun _ _ _ h => h) (Or.inl ⟨by rfl, ?_⟩) hHeld ?_
             rotate_left
             · intro w hSw
               (try dsimp only at hSw)
               go_simp
               try with_reducible rfl
             try simp only [Act.put, List.setIfInBounds_toArray, List.set_cons_zero, List.set_cons_succ])
          | fail
          refine wpAnyH_ready (rs := [14]) (by kernel_rfl) (by simp) ?_
          refine AllReadyH.cons (o := ({ dst := some 39, op := Op.call { callee := Callee.value (Operand.func 50), args := #[Operand.tmp 38], argTypes := #[22] }, type := 4, pos := "data.go:49", after := #[{ on := 13, ground := Ground.data }, { on := 12, ground := Ground.chain }, { on := 12, ground := Ground.guard }], guard := some (12, true) })) rfl (fun K hK => ?_) AllReadyH.nil
          go_simp
          refine (fromOne_any n0 _).mono ?_
          rintro e wD ⟨rfl, rfl⟩
          rw [h1]
          refine hK.out _ _ ?_ (fun hHeld2 => ?_)
          · (try dsimp only)
            exact KL.out _ HBC.out
          clear hK K hHeld
          rename _ => hHeld
          try simp only [Act.put, List.setIfInBounds_toArray, List.set_cons_zero, List.set_cons_succ]
          first
          | (refine wpAnyH_take (i := 15) (oi := ({ dst := some 40, op := Op.pick (Operand.tmp 37) (Operand.tmp 39) (Operand.const (Value.bool false)), type := 4, pos := "data.go:49", after := #[{ on := 12, ground := Ground.data }, { on := 14, ground := Ground.data }], guard := none })) (v := ?_) rfl (by kernel_rfl) (by kernel_rfl) (by kernel_rfl) (fun _ _ _ h => h) (Or.inl ⟨by rfl, ?_⟩) hHeld ?_
             rotate_left
             · intro w hSw
               (try dsimp only at hSw)
               go_simp
               try with_reducible rfl
             try simp only [Act.put, List.setIfInBounds_toArray, List.set_cons_zero, List.set_cons_succ])
          | fail
          first
          | (refine wpAnyH_take (i := 16) (oi := ({ dst := some 41, op := Op.move (Operand.tmp 40), type := 4, pos := "data.go:49", after := #[{ on := 15, ground := Ground.data }, { on := 14, ground := Ground.chain }], guard := none })) (v := ?_) rfl (by kernel_rfl) (by kernel_rfl) (by kernel_rfl) (fun _ _ _ h => h) (Or.inl ⟨by rfl, ?_⟩) hHeld ?_
             rotate_left
             · intro w hSw
               (try dsimp only at hSw)
               go_simp
               try with_reducible rfl
             try simp only [Act.put, List.setIfInBounds_toArray, List.set_cons_zero, List.set_cons_succ])
          | fail
          first
          | (refine wpAnyH_take (i := 17) (oi := ({ dst := some 42, op := Op.move (Operand.tmp 3), type := 22, pos := "data.go:49", after := #[{ on := 16, ground := Ground.guard }], guard := some (16, true) })) (v := ?_) rfl (by kernel_rfl) (by kernel_rfl) (by kernel_rfl) (fun _ _ _ h => h) (Or.inl ⟨by rfl, ?_⟩) hHeld ?_
             rotate_left
             · intro w hSw
               (try dsimp only at hSw)
               go_simp
               try with_reducible rfl
             try simp only [Act.put, List.setIfInBounds_toArray, List.set_cons_zero, List.set_cons_succ])
          | fail
          first
          | (refine wpAnyH_take (i := 18) (oi := ({ dst := some 43, op := Op.move (Operand.tmp 2), type := 22, pos := "data.go:49", after := #[{ on := 16, ground := Ground.guard }], guard := some (16, true) })) (v := ?_) rfl (by kernel_rfl) (by kernel_rfl) (by kernel_rfl) (fun _ _ _ h => h) (Or.inl ⟨by rfl, ?_⟩) hHeld ?_
             rotate_left
             · intro w hSw
               (try dsimp only at hSw)
               go_simp
               try with_reducible rfl
             try simp only [Act.put, List.setIfInBounds_toArray, List.set_cons_zero, List.set_cons_succ])
          | fail
          first
          | (refine wpAnyH_take (i := 19) (oi := ({ dst := some 44, op := Op.binOp BinOp.leq 22 (Operand.tmp 42) (Operand.tmp 43) 22, type := 4, pos := "data.go:49", after := #[{ on := 17, ground := Ground.data }, { on := 18, ground := Ground.data }, { on := 16, ground := Ground.guard }, { on := 22, ground := Ground.gcOnly Departure.lateStores }], guard := some (16, true) })) (v := ?_) rfl (by kernel_rfl) (by kernel_rfl) (by kernel_rfl) (fun _ _ _ h => h) (Or.inl ⟨by rfl, ?_⟩) hHeld ?_
             rotate_left
             · intro w hSw
               (try dsimp only at hSw)
               go_simp
               try with_reducible rfl
             try simp only [Act.put, List.setIfInBounds_toArray, List.set_cons_zero, List.set_cons_succ])
          | fail
          first
          | (refine wpAnyH_take (i := 20) (oi := ({ dst := some 45, op := Op.pick (Operand.tmp 41) (Operand.tmp 44) (Operand.const (Value.bool false)), type := 4, pos := "data.go:49", after := #[{ on := 16, ground := Ground.data }, { on := 19, ground := Ground.data }, { on := 22, ground := Ground.gcOnly Departure.lateStores }], guard := none })) (v := ?_) rfl (by kernel_rfl) (by kernel_rfl) (by kernel_rfl) (fun _ _ _ h => h) (Or.inl ⟨by rfl, ?_⟩) hHeld ?_
             rotate_left
             · intro w hSw
               (try dsimp only at hSw)
               go_simp
               try with_reducible rfl
             try simp only [Act.put, List.setIfInBounds_toArray, List.set_cons_zero, List.set_cons_succ])
          | fail
          first
          | (refine wpAnyH_take (i := 21) (oi := ({ dst := some 2, op := Op.assign (Operand.tmp 25), type := 22, pos := "data.go:49", after := #[{ on := 0, ground := Ground.data }, { on := 16, ground := Ground.chain }, { on := 0, ground := Ground.phase }, { on := 1, ground := Ground.textOnly Departure.lateStores }, { on := 2, ground := Ground.textOnly Departure.lateStores }, { on := 3, ground := Ground.textOnly Departure.lateStores }, { on := 4, ground := Ground.textOnly Departure.lateStores }, { on := 5, ground := Ground.phase }, { on := 6, ground := Ground.phase }, { on := 7, ground := Ground.textOnly Departure.lateStores }, { on := 8, ground := Ground.textOnly Departure.lateStoresUnsure }, { on := 9, ground := Ground.textOnly Departure.lateStoresUnsure }, { on := 10, ground := Ground.textOnly Departure.lateStoresUnsure }, { on := 11, ground := Ground.textOnly Departure.lateStores }, { on := 12, ground := Ground.textOnly Departure.lateStores }, { on := 13, ground := Ground.phase }, { on := 14, ground := Ground.textOnly Departure.lateStoresUnsure }, { on := 15, ground := Ground.textOnly Departure.lateStores }, { on := 16, ground := Ground.textOnly Departure.lateStores }, { on := 17, ground := Ground.phase }, { on := 18, ground := Ground.phase }, { on := 19, ground := Ground.textOnly Departure.lateStores }, { on := 20, ground := Ground.textOnly Departure.lateStores }], guard := none })) (v := ?_) rfl (by kernel_rfl) (by kernel_rfl) (by kernel_rfl) (fun _ _ _ h => h) (Or.inl ⟨by rfl, ?_⟩) hHeld ?_
             rotate_left
             · intro w hSw
               (try dsimp only at hSw)
               go_simp
               try with_reducible rfl
             try simp only [Act.put, List.setIfInBounds_toArray, List.set_cons_zero, List.set_cons_succ])
          | fail
          first
          | (refine wpAnyH_take (i := 22) (oi := ({ dst := some 3, op := Op.assign (Operand.tmp 26), type := 22, pos := "data.go:49", after := #[{ on := 1, ground := Ground.data }, { on := 21, ground := Ground.chain }, { on := 0, ground := Ground.phase }, { on := 1, ground := Ground.phase }, { on := 2, ground := Ground.textOnly Departure.lateStores }, { on := 3, ground := Ground.textOnly Departure.lateStores }, { on := 4, ground := Ground.textOnly Departure.lateStores }, { on := 5, ground := Ground.phase }, { on := 6, ground := Ground.phase }, { on := 7, ground := Ground.textOnly Departure.lateStores }, { on := 8, ground := Ground.textOnly Departure.lateStoresUnsure }, { on := 9, ground := Ground.textOnly Departure.lateStoresUnsure }, { on := 10, ground := Ground.textOnly Departure.lateStoresUnsure }, { on := 11, ground := Ground.textOnly Departure.lateStores }, { on := 12, ground := Ground.textOnly Departure.lateStores }, { on := 13, ground := Ground.phase }, { on := 14, ground := Ground.textOnly Departure.lateStoresUnsure }, { on := 15, ground := Ground.textOnly Departure.lateStores }, { on := 16, ground := Ground.textOnly Departure.lateStores }, { on := 17, ground := Ground.phase }, { on := 18, ground := Ground.phase }, { on := 19, ground := Ground.textOnly Departure.lateStores }, { on := 20, ground := Ground.textOnly Departure.lateStores }, { on := 21, ground := Ground.phase }], guard := none })) (v := ?_) rfl (by kernel_rfl) (by kernel_rfl) (by kernel_rfl) (fun _ _ _ h => h) (Or.inl ⟨by rfl, ?_⟩) hHeld ?_
             rotate_left
             · intro w hSw
               (try dsimp only at hSw)
               go_simp
               try with_reducible rfl
             try simp only [Act.put, List.setIfInBounds_toArray, List.set_cons_zero, List.set_cons_succ])
          | fail
          first
          | (refine wpAnyH_take (i := 23) (oi := ({ dst := some 4, op := Op.assign (Operand.tmp 45), type := 4, pos := "data.go:49", after := #[{ on := 20, ground := Ground.data }, { on := 22, ground := Ground.chain }, { on := 0, ground := Ground.phase }, { on := 1, ground := Ground.phase }, { on := 2, ground := Ground.phase }, { on := 3, ground := Ground.phase }, { on := 4, ground := Ground.phase }, { on := 5, ground := Ground.phase }, { on := 6, ground := Ground.phase }, { on := 7, ground := Ground.phase }, { on := 8, ground := Ground.phase }, { on := 9, ground := Ground.phase }, { on := 10, ground := Ground.phase }, { on := 11, ground := Ground.phase }, { on := 12, ground := Ground.phase }, { on := 13, ground := Ground.phase }, { on := 14, ground := Ground.phase }, { on := 15, ground := Ground.phase }, { on := 16, ground := Ground.phase }, { on := 17, ground := Ground.phase }, { on := 18, ground := Ground.phase }, { on := 19, ground := Ground.phase }, { on := 20, ground := Ground.phase }, { on := 21, ground := Ground.phase }, { on := 22, ground := Ground.phase }], guard := none })) (v := ?_) rfl (by kernel_rfl) (by kernel_rfl) (by kernel_rfl) (fun _ _ _ h => h) (Or.inl ⟨by rfl, ?_⟩) hHeld ?_
             rotate_left
             · intro w hSw
               (try dsimp only at hSw)
               go_simp
               try with_reducible rfl
             try simp only [Act.put, List.setIfInBounds_toArray, List.set_cons_zero, List.set_cons_succ])
          | fail
          refine wpAnyH_done (by kernel_rfl) ?_ _
          go_wp2_with fail
          exact bodyPost_ret (v := .tuple #[.int .u64 n0, .int .u64 n1, .bool (decide (n1 ≤ n0))]) (by simp [results, Tryd.results49, go_sem]) rfl (HFF.out _ (by simp) HBC.out)
  · have d2 : ((z.sub.length : Int) != 2) = true := by simp; omega
    have HN := Lib.hid (hops_none hl h2 HS.out)
    go_wp2_with fail
    exact bodyPost_ret (v := .tuple #[.int .u64 0, .int .u64 0, .bool false]) (by simp [results, Tryd.results49, go_sem]) rfl ⟨⟨0, 0, false, rfl, Lib.hid ⟨fun e => (by cases e), fun _ => HN.out⟩⟩, HBa.out⟩
end Go.Proofs.YthknkdphofjmhaaDoor.Can
