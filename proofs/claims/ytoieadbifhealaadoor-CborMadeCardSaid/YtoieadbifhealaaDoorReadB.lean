/- An item's bytes are read as the item, whatever stands ahead and behind; cut, they are too short: plain. No program is named here. -/
import Derived.Test.YtoieadbifhealaaDoorReadT
namespace Go.Proofs.YtoieadbifhealaaDoor.Cb

theorem head_cut (m n : Int) (o : Bool) (ahead : List Int) (c : Nat) (hc : c < (HeadP.bytes m n o).length) (hr : HeadP.right m n o = true) (hn : 0 ≤ n) :
    HeadP.read (ahead ++ (HeadP.bytes m n o).take c) ahead.length = (0, 0, false, 0, 8) := by
  have hm := HeadP.right_major m n o hr
  have hlo := HeadP.low_le n o hn
  have hfo := HeadP.following_le (HeadP.low n o)
  rw [HeadP.read_in _ _ (by simp), List.drop_left]
  unfold HeadP.bytes at hc ⊢
  cases c with
  | zero => rfl
  | succ c =>
    rw [List.take_succ_cons]
    refine HeadP.readL_short _ _ _ ?_
    rw [show (m * 32 + HeadP.low n o) % 32 = HeadP.low n o by omega, List.length_take, HeadP.be_length]
    rw [List.length_cons, HeadP.be_length] at hc
    omega
theorem chunk_mid (pre b post : List Int) : chunk (pre ++ b ++ post) pre.length b.length = b := by
  unfold chunk
  rw [Int.toNat_natCast, Int.toNat_natCast, List.append_assoc, List.drop_left, List.take_left]

/-- What a fine item's parts are, by its kind. -/
theorem fine_parts (k n : Int) (b : List Int) (l : List Itm) (h : fine (.mk k n b l) = true) :
    (k = 0 ∧ b = [] ∧ l = []) ∨ (k = 2 ∧ n = 0 ∧ l = []) ∨ (k = 3 ∧ n = 0 ∧ l = [] ∧ U8.utf8 b = true) ∨ (k = 4 ∧ n = 0 ∧ b = [] ∧ fines l = true) := by
  rw [fine_sub] at h
  simp only [Bool.and_eq_true] at h
  obtain ⟨h1, h2⟩ := h
  have hk := fit_kind _ h1
  simp only [Itm.kind] at hk
  rcases hk with rfl | rfl | rfl | rfl
  · simp [kindFit, Itm.kind, Itm.bs, Itm.sub] at h1
    exact .inl ⟨rfl, h1.1, h1.2⟩
  · simp [kindFit, Itm.kind, Itm.num, Itm.sub] at h1
    exact .inr (.inl ⟨rfl, h1.1, h1.2⟩)
  · simp [kindFit, Itm.kind, Itm.num, Itm.bs, Itm.sub] at h1
    exact .inr (.inr (.inl ⟨rfl, h1.1.1, h1.1.2, h1.2⟩))
  · simp [kindFit, Itm.kind, Itm.num, Itm.bs] at h1
    exact .inr (.inr (.inr ⟨rfl, h1.1, h1.2, h2⟩))
theorem enc_pos (x : Itm) : 1 ≤ (enc x).length := by
  have := enc_len x
  have := hl_pos x.kind (cn x) false
  omega
theorem encs_long : ∀ l : List Itm, l.length ≤ (encs l).length
  | [] => by simp
  | x :: l => by have := enc_pos x; have := encs_long l; simp [encs]; omega

mutual
theorem item_back : ∀ (x : Itm) (ahead behind : List Int) (d : Nat) (left : Int), fine x = true → sane x → deep x + d ≤ 7 → (size x : Int) ≤ left → (enc x).length ≤ 18446744073709551615 →
    HeadP.read (ahead ++ enc x ++ behind) ahead.length = (x.kind, cn x, false, (ahead.length : Int) + hl x.kind (cn x) false, 0) ∧
    ItemR (ahead ++ enc x ++ behind) d x.kind (cn x) false ((ahead.length : Int) + hl x.kind (cn x) false) left (.ok x ((ahead.length : Int) + (enc x).length) (left - size x))
  | .mk k n b l, ahead, behind, d, left, hf, hs, hd, hz, hm => by
    have hlen := enc_len (.mk k n b l)
    have henc := enc_sub (.mk k n b l)
    obtain ⟨hn, hb, hsl⟩ := hs
    have hd1 : d ≤ 6 := by have := deep_pos (.mk k n b l); omega
    have hl0 : left ≠ 0 := by have := size_pos (.mk k n b l); omega
    simp only [Itm.kind, Itm.bs, Itm.sub] at hlen henc ⊢
    have hcn : 0 ≤ cn (.mk k n b l) ∧ cn (.mk k n b l) ≤ 18446744073709551615 := by
      have h1 := encs_long l
      have h2 := hl_pos k (cn (.mk k n b l)) false
      rcases fine_parts k n b l hf with ⟨rfl, _⟩ | ⟨rfl, _⟩ | ⟨rfl, _⟩ | ⟨rfl, _⟩
      · exact hn
      · have e : cn (.mk 2 n b l) = b.length := rfl
        omega
      · have e : cn (.mk 3 n b l) = b.length := rfl
        omega
      · have e : cn (.mk 4 n b l) = l.length := rfl
        omega
    have hright : HeadP.right k (cn (.mk k n b l)) false = true := by
      rcases fine_parts k n b l hf with ⟨rfl, _⟩ | ⟨rfl, _⟩ | ⟨rfl, _⟩ | ⟨rfl, _⟩ <;> simp [HeadP.right]
    have hread := HeadP.read_back k (cn (.mk k n b l)) false ahead (b ++ encs l ++ behind) hright hcn.1 hcn.2
    have hxs : ahead ++ enc (.mk k n b l) ++ behind = ahead ++ HeadP.bytes k (cn (.mk k n b l)) false ++ (b ++ encs l ++ behind) := by rw [henc]; simp only [List.append_assoc]
    have hpre : ((ahead ++ HeadP.bytes k (cn (.mk k n b l)) false).length : Int) = (ahead.length : Int) + hl k (cn (.mk k n b l)) false := by rw [List.length_append]; unfold hl; omega
    refine ⟨by rw [hxs]; exact hread, ?_⟩
    rw [hxs]
    rcases fine_parts k n b l hf with ⟨rfl, rfl, rfl⟩ | ⟨rfl, rfl, rfl⟩ | ⟨rfl, rfl, rfl, hu⟩ | ⟨rfl, rfl, rfl, hfl⟩
    · have e1 : cn (.mk 0 n [] []) = n := rfl
      have e2 : size (.mk 0 n [] []) = 1 := rfl
      rw [hlen, e1, e2]
      simp only [encs, List.length_nil, Int.natCast_zero, Int.add_zero]
      exact .num hd1 hl0
    · have e1 : cn (.mk 2 0 b []) = b.length := rfl
      have e2 : size (.mk 2 0 b []) = 1 := rfl
      rw [hlen, e2]
      refine .body (.inl rfl) hd1 hl0 ?_
      rw [e1] at hpre ⊢
      simp only [BodyR, Bool.false_eq_true, if_false, encs, List.append_nil, List.length_nil, Int.natCast_zero, Int.add_zero]
      rw [← List.append_assoc, ← hpre]
      unfold piece
      rw [if_neg (by simp only [List.length_append]; omega), if_neg (by omega), chunk_mid, List.nil_append]
      congr 1
      omega
    · have e1 : cn (.mk 3 0 b []) = b.length := rfl
      have e2 : size (.mk 3 0 b []) = 1 := rfl
      rw [hlen, e2]
      refine .body (.inr rfl) hd1 hl0 ?_
      rw [e1] at hpre ⊢
      simp only [BodyR, Bool.false_eq_true, if_false, encs, List.append_nil, List.length_nil, Int.natCast_zero, Int.add_zero]
      rw [← List.append_assoc, ← hpre]
      unfold piece
      rw [if_neg (by simp only [List.length_append]; omega), chunk_mid, if_neg (by rw [hu]; simp), List.nil_append]
      congr 1
      omega
    · have e1 : cn (.mk 4 0 [] l) = l.length := rfl
      have e2 : size (.mk 4 0 [] l) = 1 + sizes l := rfl
      have e3 : deep (.mk 4 0 [] l) = 1 + deeps l := rfl
      have hit := items_back l (ahead ++ HeadP.bytes 4 (cn (.mk 4 0 [] l)) false) behind d (left - 1) [] hfl hsl (by omega) (by omega) (by have := hl_pos 4 (cn (.mk 4 0 [] l)) false; rw [List.length_nil] at hlen; omega)
      have hll := encs_long l
      rw [hlen, e2]
      rw [hpre] at hit
      simp only [List.nil_append, List.length_nil] at hit ⊢
      rw [e1] at hpre hit ⊢
      have hgo := ItemR.many (n := (l.length : Int)) hd1 hl0 (by rw [← hpre]; simp only [List.length_append]; omega) hit
      simp only [Int.natCast_add, Int.natCast_zero, Int.add_zero, Int.natCast_one]
      rw [show left - (1 + (sizes l : Int)) = left - 1 - sizes l by omega, show (ahead.length : Int) + (hl 4 l.length false + (encs l).length) = ahead.length + hl 4 l.length false + (encs l).length by omega]
      simpa only [List.append_assoc] using hgo
theorem items_back : ∀ (l : List Itm) (ahead behind : List Int) (d : Nat) (left : Int) (acc : List Itm), fines l = true → sanes l → deeps l + d ≤ 6 → (sizes l : Int) ≤ left → (encs l).length ≤ 18446744073709551615 →
    ManyR (ahead ++ encs l ++ behind) d l.length acc ahead.length left (.ok (acc ++ l) ((ahead.length : Int) + (encs l).length) (left - sizes l))
  | [], ahead, behind, d, left, acc, hf, hs, hd, hz, hm => by
    simp only [encs, sizes, List.append_nil, List.length_nil, Int.natCast_zero, Int.add_zero, Int.sub_zero]
    exact .done
  | x :: l, ahead, behind, d, left, acc, hf, hs, hd, hz, hm => by
    simp only [fines, Bool.and_eq_true] at hf
    simp only [deeps] at hd
    simp only [sizes] at hz
    simp only [encs, List.length_append] at hm
    obtain ⟨h1, h2⟩ := item_back x ahead (encs l ++ behind) (d + 1) left hf.1 hs.1 (by omega) (by omega) (by omega)
    have h3 := items_back l (ahead ++ enc x) behind d (left - size x) (acc ++ [x]) hf.2 hs.2 (by omega) (by omega) (by omega)
    simp only [encs, List.length_cons, sizes, List.length_append]
    have exs : ahead ++ (enc x ++ encs l) ++ behind = ahead ++ enc x ++ (encs l ++ behind) := by simp only [List.append_assoc]
    have exs2 : ahead ++ enc x ++ encs l ++ behind = ahead ++ enc x ++ (encs l ++ behind) := by simp only [List.append_assoc]
    rw [exs]
    rw [exs2] at h3
    refine .more h1 h2 ?_
    simp only [List.length_append, List.append_assoc, Int.natCast_add, List.singleton_append] at h3 ⊢
    rw [show (ahead.length : Int) + ((enc x).length + (encs l).length) = ahead.length + (enc x).length + (encs l).length by omega, show left - ((size x : Int) + sizes l) = left - size x - sizes l by omega]
    exact h3
end

mutual
theorem item_cut : ∀ (x : Itm) (ahead : List Int) (c d : Nat) (left : Int), fine x = true → sane x → deep x + d ≤ 7 → (size x : Int) ≤ left → (enc x).length ≤ 18446744073709551615 → c < (enc x).length →
    HeadP.read (ahead ++ (enc x).take c) ahead.length = (0, 0, false, 0, 8) ∨
    (HeadP.read (ahead ++ (enc x).take c) ahead.length = (x.kind, cn x, false, (ahead.length : Int) + hl x.kind (cn x) false, 0) ∧
      ItemR (ahead ++ (enc x).take c) d x.kind (cn x) false ((ahead.length : Int) + hl x.kind (cn x) false) left (.err 8))
  | .mk k n b l, ahead, c, d, left, hf, hs, hd, hz, hm, hc => by
    have hlen := enc_len (.mk k n b l)
    have henc := enc_sub (.mk k n b l)
    obtain ⟨hn, hb, hsl⟩ := hs
    have hd1 : d ≤ 6 := by have := deep_pos (.mk k n b l); omega
    have hl0 : left ≠ 0 := by have := size_pos (.mk k n b l); omega
    simp only [Itm.kind, Itm.bs, Itm.sub] at hlen henc ⊢
    have hcn : 0 ≤ cn (.mk k n b l) ∧ cn (.mk k n b l) ≤ 18446744073709551615 := by
      have h1 := encs_long l
      have h2 := hl_pos k (cn (.mk k n b l)) false
      rcases fine_parts k n b l hf with ⟨rfl, _⟩ | ⟨rfl, _⟩ | ⟨rfl, _⟩ | ⟨rfl, _⟩
      · exact hn
      · have e : cn (.mk 2 n b l) = b.length := rfl
        omega
      · have e : cn (.mk 3 n b l) = b.length := rfl
        omega
      · have e : cn (.mk 4 n b l) = l.length := rfl
        omega
    have hright : HeadP.right k (cn (.mk k n b l)) false = true := by
      rcases fine_parts k n b l hf with ⟨rfl, _⟩ | ⟨rfl, _⟩ | ⟨rfl, _⟩ | ⟨rfl, _⟩ <;> simp [HeadP.right]
    have hhl : hl k (cn (.mk k n b l)) false = (HeadP.bytes k (cn (.mk k n b l)) false).length := rfl
    by_cases hcut : c < (HeadP.bytes k (cn (.mk k n b l)) false).length
    · left
      rw [henc, List.append_assoc, List.take_append_of_le_length (by omega)]
      exact head_cut _ _ _ ahead c hcut hright hcn.1
    · right
      have htk : (enc (.mk k n b l)).take c = HeadP.bytes k (cn (.mk k n b l)) false ++ (b ++ encs l).take (c - (HeadP.bytes k (cn (.mk k n b l)) false).length) := by
        rw [henc, List.append_assoc, List.take_append, List.take_of_length_le (by omega)]
      have hread := HeadP.read_back k (cn (.mk k n b l)) false ahead ((b ++ encs l).take (c - (HeadP.bytes k (cn (.mk k n b l)) false).length)) hright hcn.1 hcn.2
      have hxl : ((ahead ++ HeadP.bytes k (cn (.mk k n b l)) false ++ (b ++ encs l).take (c - (HeadP.bytes k (cn (.mk k n b l)) false).length)).length : Int) = (ahead.length : Int) + c := by
        simp only [List.length_append, List.length_take]
        omega
      have hpre : ((ahead ++ HeadP.bytes k (cn (.mk k n b l)) false).length : Int) = (ahead.length : Int) + hl k (cn (.mk k n b l)) false := by rw [List.length_append]; unfold hl; omega
      rw [htk, ← List.append_assoc]
      refine ⟨hread, ?_⟩
      rcases fine_parts k n b l hf with ⟨rfl, rfl, rfl⟩ | ⟨rfl, rfl, rfl⟩ | ⟨rfl, rfl, rfl, hu⟩ | ⟨rfl, rfl, rfl, hfl⟩
      · exfalso
        simp only [encs, List.length_nil] at hlen
        omega
      · have e1 : cn (.mk 2 0 b []) = b.length := rfl
        refine .bodyE (.inl rfl) hd1 hl0 ?_
        simp only [BodyR, Bool.false_eq_true, if_false]
        unfold piece
        simp only [encs, List.length_nil] at hlen
        rw [if_pos (by rw [hxl]; rw [e1] at hlen hhl hcut ⊢; omega)]
      · have e1 : cn (.mk 3 0 b []) = b.length := rfl
        refine .bodyE (.inr rfl) hd1 hl0 ?_
        simp only [BodyR, Bool.false_eq_true, if_false]
        unfold piece
        simp only [encs, List.length_nil] at hlen
        rw [if_pos (by rw [hxl]; rw [e1] at hlen hhl hcut ⊢; omega)]
      · have e1 : cn (.mk 4 0 [] l) = l.length := rfl
        have e2 : size (.mk 4 0 [] l) = 1 + sizes l := rfl
        have e3 : deep (.mk 4 0 [] l) = 1 + deeps l := rfl
        simp only [List.length_nil] at hlen
        have hit := items_cut l (ahead ++ HeadP.bytes 4 (cn (.mk 4 0 [] l)) false) (c - (HeadP.bytes 4 (cn (.mk 4 0 [] l)) false).length) d (left - 1) [] hfl hsl (by omega) (by omega) (by have := hl_pos 4 (cn (.mk 4 0 [] l)) false; omega) (by omega)
        rw [hpre] at hit
        simp only [List.nil_append] at hit hxl ⊢
        rw [e1] at hit hxl hhl hpre hcut hlen ⊢
        by_cases hnd : ((ahead ++ HeadP.bytes 4 (l.length : Int) false ++ (encs l).take (c - (HeadP.bytes 4 (l.length : Int) false).length)).length : Int) - ((ahead.length : Int) + hl 4 (l.length : Int) false) < (l.length : Int)
        · exact .need hd1 hl0 hnd
        · exact .manyE hd1 hl0 hnd hit
theorem items_cut : ∀ (l : List Itm) (ahead : List Int) (c d : Nat) (left : Int) (acc : List Itm), fines l = true → sanes l → deeps l + d ≤ 6 → (sizes l : Int) ≤ left → (encs l).length ≤ 18446744073709551615 → c < (encs l).length →
    ManyR (ahead ++ (encs l).take c) d l.length acc ahead.length left (.err 8)
  | [], ahead, c, d, left, acc, hf, hs, hd, hz, hm, hc => by simp [encs] at hc
  | x :: l, ahead, c, d, left, acc, hf, hs, hd, hz, hm, hc => by
    simp only [fines, Bool.and_eq_true] at hf
    simp only [deeps] at hd
    simp only [sizes] at hz
    simp only [encs, List.length_append] at hm hc
    simp only [encs, List.length_cons]
    by_cases hcx : c < (enc x).length
    · rw [List.take_append_of_le_length (by omega)]
      rcases item_cut x ahead c (d + 1) left hf.1 hs.1 (by omega) (by omega) (by omega) hcx with h | ⟨h1, h2⟩
      · exact .bad h (by omega)
      · exact .cut h1 h2
    · rw [List.take_append, List.take_of_length_le (by omega), ← List.append_assoc]
      obtain ⟨h1, h2⟩ := item_back x ahead ((encs l).take (c - (enc x).length)) (d + 1) left hf.1 hs.1 (by omega) (by omega) (by omega)
      have h3 := items_cut l (ahead ++ enc x) (c - (enc x).length) d (left - size x) (acc ++ [x]) hf.2 hs.2 (by omega) (by omega) (by omega) (by omega)
      refine .more h1 h2 ?_
      rw [show ((ahead ++ enc x).length : Int) = ahead.length + (enc x).length by simp] at h3
      exact h3
end

/-- A right item's bytes, with anything behind them, are read as it. -/
theorem read_back (x : Itm) (behind : List Int) (hr : right x = true) (hs : sane x) (hm : (enc x).length ≤ 18446744073709551615) : ReadR (enc x ++ behind) 0 (.ok x (enc x).length (256 - size x)) := by
  unfold right at hr
  simp only [Bool.and_eq_true, decide_eq_true_eq] at hr
  obtain ⟨h1, h2⟩ := item_back x [] behind 1 256 hr.2 hs (by omega) (by omega) hm
  simp only [List.nil_append, List.length_nil, Int.natCast_zero, Int.zero_add] at h1 h2
  exact .item h1 h2
/-- Cut, they are too short. -/
theorem read_cut (x : Itm) (c : Nat) (hr : right x = true) (hs : sane x) (hm : (enc x).length ≤ 18446744073709551615) (hc : c < (enc x).length) : ReadR ((enc x).take c) 0 (.err 8) := by
  unfold right at hr
  simp only [Bool.and_eq_true, decide_eq_true_eq] at hr
  rcases item_cut x [] c 1 256 hr.2 hs (by omega) (by omega) hm hc with h | ⟨h1, h2⟩
  · simp only [List.nil_append, List.length_nil, Int.natCast_zero] at h
    exact .bad h (by omega)
  · simp only [List.nil_append, List.length_nil, Int.natCast_zero, Int.zero_add] at h1 h2
    exact .item h1 h2
end Go.Proofs.YtoieadbifhealaaDoor.Cb
