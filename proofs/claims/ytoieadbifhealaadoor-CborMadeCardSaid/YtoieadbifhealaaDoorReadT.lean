/- What is read is right, and written again not longer: plain. No program is named here. -/
import Derived.Test.YtoieadbifhealaaDoorReadP
namespace Go.Proofs.YtoieadbifhealaaDoor.U8

theorem pt_append (a b : List Int) (ha : a ≠ []) (h : pt a ≠ 0) : pt (a ++ b) = pt a ∧ pt a ≤ a.length := by
  obtain ⟨x, r, rfl⟩ := List.exists_cons_of_ne_nil ha
  have h0 : ((x :: r) ++ b).getD 0 0 = x := by simp
  have h0' : (x :: r).getD 0 0 = x := by simp
  unfold pt at h ⊢
  rw [h0'] at h
  rw [h0, h0']
  by_cases hx : x < 128
  · simp [hx]
  · rw [if_neg hx] at h ⊢
    rw [if_neg hx]
    by_cases hb : bad (x :: r)
    · rw [if_pos hb] at h
      exact absurd rfl h
    · rw [if_neg hb] at h ⊢
      have hb' := hb
      unfold bad at hb
      simp only [h0', not_or] at hb
      obtain ⟨c0, c1, c2, c3, c4, c5⟩ := hb
      have hg : ∀ j, j < (x :: r).length → ((x :: r) ++ b).getD j 0 = (x :: r).getD j 0 := fun j hj => by
        simp only [List.getD]
        rw [List.getElem?_append_left hj]
      have hcc := cnt_cases x
      have hlen : 2 ≤ (x :: r).length := by omega
      have hnb : ¬ bad ((x :: r) ++ b) := by
        unfold bad
        rw [h0, hg 1 (by omega)]
        simp only [not_or]
        refine ⟨c0, by rw [List.length_append]; omega, c2, c3, ?_, ?_⟩
        · rintro ⟨h3, h4⟩
          rw [hg 2 (by omega)] at h4
          exact c4 ⟨h3, h4⟩
        · rintro ⟨h3, h4⟩
          rw [hg 3 (by omega)] at h4
          exact c5 ⟨h3, h4⟩
      rw [if_neg hnb]
      exact ⟨rfl, by omega⟩
theorem utf8_append (n : Nat) : ∀ a b : List Int, a.length ≤ n → utf8 a = true → utf8 (a ++ b) = utf8 b := by
  induction n with
  | zero =>
    intro a b hn _
    obtain rfl : a = [] := List.eq_nil_of_length_eq_zero (by omega)
    rfl
  | succ n ih =>
    intro a b hn h
    by_cases ha : a = []
    · subst ha; rfl
    · rw [utf8_step a ha] at h
      by_cases hp : pt a = 0
      · rw [if_pos hp] at h; cases h
      · rw [if_neg hp] at h
        obtain ⟨h1, h2⟩ := pt_append a b ha hp
        rw [utf8_step (a ++ b) (by simp [ha]), h1, if_neg hp, List.drop_append_of_le_length h2]
        refine ih _ b ?_ h
        rw [List.length_drop]
        have : 0 < pt a := Nat.pos_of_ne_zero hp
        omega
end Go.Proofs.YtoieadbifhealaaDoor.U8
namespace Go.Proofs.YtoieadbifhealaaDoor.Cb

/-- How many bytes a head has. -/
def hl (m n : Int) (o : Bool) : Int := (HeadP.bytes m n o).length
theorem hl_eq (m n : Int) (o : Bool) : hl m n o = 1 + HeadP.following (HeadP.low n o) := by
  have := HeadP.following_le (HeadP.low n o)
  unfold hl HeadP.bytes
  rw [List.length_cons, HeadP.be_length]
  omega
theorem hl_closed (m n : Int) (h0 : 0 ≤ n) : (n < 24 ∧ hl m n false = 1) ∨ (24 ≤ n ∧ n < 256 ∧ hl m n false = 2) ∨ (256 ≤ n ∧ n < 65536 ∧ hl m n false = 3) ∨ (65536 ≤ n ∧ n < 4294967296 ∧ hl m n false = 5) ∨ (4294967296 ≤ n ∧ hl m n false = 9) := by
  rw [hl_eq]
  unfold HeadP.low HeadP.lowN HeadP.following
  simp only [Bool.false_eq_true, if_false]
  (repeat' split) <;> omega
theorem hl_pos (m n : Int) (o : Bool) : 1 ≤ hl m n o := by
  rw [hl_eq]
  have := HeadP.following_le (HeadP.low n o)
  omega
/-- What is read as a head. -/
theorem hd_fact {xs : List Int} (hx : St.bts xs) {p m n j : Int} {o : Bool} (h : HeadP.read xs p = (m, n, o, j, 0)) : 0 ≤ p ∧ p < j ∧ p + hl m n o ≤ j ∧ j ≤ xs.length ∧ 0 ≤ n ∧ n ≤ 18446744073709551615 ∧ HeadP.right m n o = true := by
  have hok := HeadP.read_ok xs p hx m n o j h
  obtain ⟨k, rfl⟩ := Int.eq_ofNat_of_zero_le hok.1
  have hd := HeadP.read_drop xs k (by omega) m n o j h
  have ha := (HeadP.read_again (xs.drop k) (fun x hx' => hx x (List.mem_of_mem_drop hx')) m n o _ hd).2
  unfold hl
  exact ⟨hok.1, hok.2.1, by omega, hok.2.2.1, hok.2.2.2.2.1, hok.2.2.2.2.2, hok.2.2.2.1⟩

mutual
/-- Numbers and bytes are within their bounds. -/
def sane : Itm → Prop
  | .mk _ n b l => (0 ≤ n ∧ n ≤ 18446744073709551615) ∧ St.bts b ∧ sanes l
def sanes : List Itm → Prop
  | [] => True
  | x :: l => sane x ∧ sanes l
end
theorem sanes_append : ∀ (l m : List Itm), sanes (l ++ m) ↔ sanes l ∧ sanes m
  | [], m => by simp [sanes]
  | x :: l, m => by simp [sanes, sanes_append l m, and_assoc]

/-- A measure of a number: one, two, three or four. -/
def gg (n : Int) : Int := if n < 24 then 1 else if n < 256 then 2 else if n < 65536 then 3 else 4
theorem gg_cases (n : Int) : (n < 24 ∧ gg n = 1) ∨ (24 ≤ n ∧ n < 256 ∧ gg n = 2) ∨ (256 ≤ n ∧ n < 65536 ∧ gg n = 3) ∨ (65536 ≤ n ∧ gg n = 4) := by
  unfold gg; (repeat' split) <;> omega
theorem gg_add (a n : Int) (ha : 0 ≤ a) (hn : 0 ≤ n) : gg (a + n) ≤ gg a + gg n := by
  have h1 := gg_cases a
  have h2 := gg_cases n
  have h3 := gg_cases (a + n)
  omega
theorem gg_le (m n : Int) (h : 0 ≤ n) : gg n ≤ hl m n false := by
  have h1 := gg_cases n
  have h2 := hl_closed m n h
  omega
theorem hl_le_gg (m n : Int) (h : 0 ≤ n) (h2 : n < 4294967296) : hl m n false ≤ gg n + 1 := by
  have h1 := gg_cases n
  have h2 := hl_closed m n h
  omega

theorem chunk_len (xs : List Int) (p n : Int) (hp : 0 ≤ p) (hn : 0 ≤ n) (h : ¬ (xs.length : Int) - p < n) : ((chunk xs p n).length : Int) = n := by
  unfold chunk
  simp
  omega
theorem chunk_bt (xs : List Int) (p n : Int) (h : St.bts xs) : St.bts (chunk xs p n) := fun x hx => h x (List.mem_of_mem_drop (List.mem_of_mem_take hx))

/-- A piece that is there. -/
theorem piece_fact {xs acc b : List Int} {m n p left p' l' : Int} (hx : St.bts xs) (hp : 0 ≤ p) (hn : 0 ≤ n) (h : piece xs acc m n p left = .ok b p' l') :
    p' = p + n ∧ l' = left ∧ p' ≤ xs.length ∧ b = acc ++ chunk xs p n ∧ ((chunk xs p n).length : Int) = n ∧ (m = 3 → U8.utf8 (chunk xs p n) = true) := by
  unfold piece at h
  split at h
  · cases h
  · rename_i h1
    split at h
    · cases h
    · rename_i h2
      injection h with e1 e2 e3
      refine ⟨e2.symm, e3.symm, by omega, e1.symm, chunk_len xs p n hp hn h1, fun hm => ?_⟩
      cases hu : U8.utf8 (chunk xs p n)
      · exact absurd ⟨hm, hu⟩ h2
      · rfl

theorem chunks_good {xs : List Int} (hx : St.bts xs) {m left : Int} : ∀ {acc : List Int} {p : Int} {r : Res (List Int)}, ChunksR xs m left acc p r → ∀ {b : List Int} {p' l' : Int}, r = .ok b p' l' → St.bts acc → (m = 3 → U8.utf8 acc = true) →
    l' = left ∧ p < p' ∧ p' ≤ xs.length ∧ St.bts b ∧ (m = 3 → U8.utf8 b = true) ∧ gg b.length + b.length + p + 1 ≤ p' + gg acc.length + acc.length := by
  intro acc p r h
  induction h with
  | bad _ _ => intro b p' l' e; cases e
  | stop h _ =>
    intro b p' l' e hb hu
    injection e with e1 e2 e3
    subst e1 e2 e3
    have hf := hd_fact hx h
    exact ⟨rfl, hf.2.1, hf.2.2.2.1, hb, hu, by omega⟩
  | form _ _ _ => intro b p' l' e; cases e
  | cut _ _ => intro b p' l' e; cases e
  | @more ac q n j ac2 j2 l2 r h hp _ ih =>
    intro b p' l' e hb hu
    have hf := hd_fact hx h
    obtain ⟨rfl, rfl, h3, rfl, h5, h6⟩ := piece_fact hx (by omega) hf.2.2.2.2.1 hp
    obtain ⟨rfl, q2, q3, q4, q5, q6⟩ := ih e (fun x hx' => by
      rcases List.mem_append.1 hx' with h' | h'
      · exact hb x h'
      · exact chunk_bt xs _ _ hx x h') (fun hm => by rw [U8.utf8_append _ _ _ (Nat.le_refl _) (hu hm)]; exact h6 hm)
    refine ⟨rfl, by omega, q3, q4, q5, ?_⟩
    rw [List.length_append] at q6
    have ha := gg_add (ac.length : Int) n (by omega) hf.2.2.2.2.1
    have hg := gg_le m n hf.2.2.2.2.1
    rw [Int.natCast_add, h5] at q6
    omega

/-- Bytes or a text that was read. -/
theorem body_good {xs : List Int} (hx : St.bts xs) {m n p left p' l' : Int} {o : Bool} {b : List Int} (hp : 0 ≤ p) (hpx : p ≤ xs.length) (hn : 0 ≤ n) (hlen : xs.length ≤ 4294967295) (h : BodyR xs m n o p left (.ok b p' l')) :
    l' = left ∧ p ≤ p' ∧ p' ≤ xs.length ∧ St.bts b ∧ (m = 3 → U8.utf8 b = true) ∧ hl m b.length false + b.length ≤ hl m n o + (p' - p) := by
  unfold BodyR at h
  cases o
  · simp only [Bool.false_eq_true, if_false] at h
    obtain ⟨rfl, rfl, h3, rfl, h5, h6⟩ := piece_fact hx hp hn h
    rw [List.nil_append]
    refine ⟨rfl, by omega, h3, chunk_bt xs _ _ hx, h6, ?_⟩
    rw [h5]
    omega
  · simp only [if_true] at h
    obtain ⟨q1, q2, q3, q4, q5, q6⟩ := chunks_good hx h rfl (by intro x hx; cases hx) (fun _ => rfl)
    refine ⟨q1, by omega, q3, q4, q5, ?_⟩
    have h0 : gg (([] : List Int).length : Int) = 1 := rfl
    have h1 : (([] : List Int).length : Int) = 0 := rfl
    have h2 := gg_cases (b.length : Int)
    have hg := hl_le_gg m (b.length : Int) (by omega) (by omega)
    have hp := hl_pos m n true
    omega

/-- What is said of an item that was read. -/
structure Good (xs : List Int) (d : Nat) (left H p : Int) (x : Itm) (p' l' : Int) : Prop where
  size : l' + size x = left
  left : 0 ≤ l'
  deep : deep x + d ≤ 7
  fine : fine x = true
  sane : sane x
  at0 : p ≤ p'
  at1 : p' ≤ xs.length
  len : ((enc x).length : Int) ≤ H + (p' - p)
/-- And of items. -/
structure Goods (xs : List Int) (d : Nat) (left p : Int) (l : List Itm) (p' l' : Int) : Prop where
  size : l' + sizes l = left
  left : 0 ≤ l'
  deep : deeps l + d ≤ 6
  fine : fines l = true
  sane : sanes l
  at0 : p ≤ p'
  at1 : p' ≤ xs.length
  len : ((encs l).length : Int) ≤ p' - p
theorem enc_len (x : Itm) : ((enc x).length : Int) = hl x.kind (cn x) false + x.bs.length + (encs x.sub).length := by
  rw [enc_sub, List.length_append, List.length_append]
  unfold hl
  omega
theorem list_good {xs : List Int} {d : Nat} {n left p p' l' : Int} {o : Bool} {l : List Itm} (hd : d ≤ 6) (h : Goods xs d (left - 1) p l p' l') (hlen : hl 4 l.length false + (encs l).length ≤ hl 4 n o + (p' - p)) (hl0 : left ≤ 256) : Good xs d left (hl 4 n o) p (.mk 4 0 [] l) p' l' := by
  refine ⟨?_, h.left, ?_, ?_, ?_, h.at0, h.at1, ?_⟩
  · have := h.size; simp only [size]; omega
  · have := h.deep; simp only [deep]; omega
  · simp [fine, kindFit, Itm.kind, Itm.num, Itm.bs, h.fine]
  · exact ⟨by omega, (by intro x hx; cases hx), h.sane⟩
  · rw [enc_len]
    have : cn (.mk 4 0 [] l) = l.length := by simp [cn, Itm.kind, Itm.sub]
    rw [this]
    simp only [Itm.kind, Itm.bs, Itm.sub, List.length_nil]
    omega

mutual
theorem item_good {xs : List Int} (hx : St.bts xs) (hlen : xs.length ≤ 4294967295) : ∀ {d : Nat} {m n : Int} {o : Bool} {p left : Int} {r : Res Itm}, ItemR xs d m n o p left r → ∀ {x : Itm} {p' l' : Int}, r = .ok x p' l' → 0 ≤ p → p ≤ xs.length → HeadP.right m n o = true → 0 ≤ n → n ≤ 18446744073709551615 → 0 ≤ left → left ≤ 256 → Good xs d left (hl m n o) p x p' l'
  | _, _, _, _, _, _, _, .form _, _, _, _, e, _, _, _, _, _, _, _ => by cases e
  | _, _, _, _, _, _, _, .deep _ _, _, _, _, e, _, _, _, _, _, _, _ => by cases e
  | _, _, _, _, _, _, _, .long _ _, _, _, _, e, _, _, _, _, _, _, _ => by cases e
  | _, _, _, _, _, _, _, .bodyE _ _ _ _, _, _, _, e, _, _, _, _, _, _, _ => by cases e
  | _, _, _, _, _, _, _, .openE _ _ _, _, _, _, e, _, _, _, _, _, _, _ => by cases e
  | _, _, _, _, _, _, _, .need _ _ _, _, _, _, e, _, _, _, _, _, _, _ => by cases e
  | _, _, _, _, _, _, _, .manyE _ _ _ _, _, _, _, e, _, _, _, _, _, _, _ => by cases e
  | _, _, n, o, p, left, _, .num hd hl', _, _, _, e, hp, hpx, hr, hn, hn2, hl0, hl1 => by
    injection e with e1 e2 e3
    subst e1 e2 e3
    have ho : o = false := by
      cases o
      · rfl
      · simp [HeadP.right, HeadP.mayOpen] at hr
    subst ho
    refine ⟨by simp [size, sizes], by omega, by simp [deep, deeps]; omega, by simp [fine, kindFit, Itm.kind, Itm.bs, Itm.sub, fines], ⟨⟨hn, hn2⟩, (by intro x hx; cases hx), trivial⟩, by omega, hpx, ?_⟩
    rw [enc_len]
    simp [cn, Itm.kind, Itm.num, Itm.bs, Itm.sub, encs]
  | _, m, n, o, p, left, _, .body (b := b) hm hd hl' hb, _, _, _, e, hp, hpx, hr, hn, hn2, hl0, hl1 => by
    injection e with e1 e2 e3
    subst e1 e2 e3
    obtain ⟨rfl, q2, q3, q4, q5, q6⟩ := body_good hx hp hpx hn hlen hb
    refine ⟨by simp [size, sizes], by omega, by simp [deep, deeps]; omega, ?_, ⟨by omega, q4, trivial⟩, q2, q3, ?_⟩
    · rcases hm with rfl | rfl
      · simp [fine, kindFit, Itm.kind, Itm.num, Itm.sub, fines]
      · simp [fine, kindFit, Itm.kind, Itm.num, Itm.bs, Itm.sub, fines, q5]
    · rw [enc_len]
      have : cn (.mk m 0 b []) = b.length := by simp [cn, Itm.kind, Itm.bs, hm]
      rw [this]
      simp only [Itm.kind, Itm.bs, Itm.sub, encs, List.length_nil]
      omega
  | d, _, n, _, p, left, _, .open_ (l := l) hd hl' hb, _, _, _, e, hp, hpx, hr, hn, hn2, hl0, hl1 => by
    injection e with e1 e2 e3
    subst e1 e2 e3
    obtain ⟨l2, e2, g, h1⟩ := open_good hx hlen hb rfl hd hp hpx (by omega) (by omega)
    rw [List.nil_append] at e2
    rw [e2]
    refine list_good hd g ?_ hl1
    have hls := length_le_sizes l2
    have hsz := g.size
    have hl2 := g.left
    have h2 := hl_closed 4 (l2.length : Int) (by omega)
    have h3 := hl_pos 4 n true
    omega
  | d, _, n, _, p, left, _, .many (l := l) hd hl' hn' hb, _, _, _, e, hp, hpx, hr, hn, hn2, hl0, hl1 => by
    injection e with e1 e2 e3
    subst e1 e2 e3
    obtain ⟨l2, e2, g, h1⟩ := many_good hx hlen hb rfl hd hp hpx (by omega) (by omega)
    rw [List.nil_append] at e2
    rw [e2]
    refine list_good hd g ?_ hl1
    have := g.len
    rw [h1, Int.toNat_of_nonneg hn]
    omega
theorem many_good {xs : List Int} (hx : St.bts xs) (hlen : xs.length ≤ 4294967295) : ∀ {d k : Nat} {acc : List Itm} {p left : Int} {r : Res (List Itm)}, ManyR xs d k acc p left r → ∀ {l : List Itm} {p' l' : Int}, r = .ok l p' l' → d ≤ 6 → 0 ≤ p → p ≤ xs.length → 0 ≤ left → left ≤ 256 → ∃ l2, l = acc ++ l2 ∧ Goods xs d left p l2 p' l' ∧ l2.length = k
  | _, _, _, _, _, _, .bad _ _, _, _, _, e, _, _, _, _, _ => by cases e
  | _, _, _, _, _, _, .cut _ _, _, _, _, e, _, _, _, _, _ => by cases e
  | d, _, acc, p, left, _, .done, _, _, _, e, hd, hp, hpx, hl0, hl1 => by
    injection e with e1 e2 e3
    subst e1 e2 e3
    exact ⟨[], by simp, ⟨by simp [sizes], hl0, by simp [deeps]; omega, rfl, trivial, by omega, hpx, by simp [encs]⟩, rfl⟩
  | d, _, acc, p, left, _, .more (x := x) h hi hr, _, _, _, e, hd, hp, hpx, hl0, hl1 => by
    have hf := hd_fact hx h
    have g1 := item_good hx hlen hi rfl (by omega) (by omega) hf.2.2.2.2.2.2 hf.2.2.2.2.1 hf.2.2.2.2.2.1 hl0 hl1
    have hd6 : d + 1 ≤ 6 := by have := g1.deep; have := deep_pos x; omega
    have a0 := g1.at0
    have a1 := g1.at1
    have s1 := g1.size
    have l1 := g1.left
    have d1 := g1.deep
    have e1 := g1.len
    obtain ⟨l2, rfl, g, hk⟩ := many_good hx hlen hr e hd (by omega) a1 l1 (by omega)
    refine ⟨x :: l2, by simp, ⟨?_, g.left, ?_, ?_, ⟨g1.sane, g.sane⟩, ?_, g.at1, ?_⟩, by simp [hk]⟩
    · have := g.size; simp only [sizes]; omega
    · have := g.deep; simp only [deeps]; omega
    · simp [fines, g1.fine, g.fine]
    · have := g.at0; omega
    · have := g.len; simp only [encs, List.length_append]; omega
theorem open_good {xs : List Int} (hx : St.bts xs) (hlen : xs.length ≤ 4294967295) : ∀ {d : Nat} {acc : List Itm} {p left : Int} {r : Res (List Itm)}, OpenR xs d acc p left r → ∀ {l : List Itm} {p' l' : Int}, r = .ok l p' l' → d ≤ 6 → 0 ≤ p → p ≤ xs.length → 0 ≤ left → left ≤ 256 → ∃ l2, l = acc ++ l2 ∧ Goods xs d left p l2 p' l' ∧ ((encs l2).length : Int) + 1 ≤ p' - p
  | _, _, _, _, _, .bad _ _, _, _, _, e, _, _, _, _, _ => by cases e
  | _, _, _, _, _, .cut _ _ _, _, _, _, e, _, _, _, _, _ => by cases e
  | d, acc, p, left, _, .stop h he, _, _, _, e, hd, hp, hpx, hl0, hl1 => by
    injection e with e1 e2 e3
    subst e1 e2 e3
    have hf := hd_fact hx h
    exact ⟨[], by simp, ⟨by simp [sizes], hl0, by simp [deeps]; omega, rfl, trivial, by omega, hf.2.2.2.1, by simp [encs]; omega⟩, by simp [encs]; omega⟩
  | d, acc, p, left, _, .more (x := x) h he hi hr, _, _, _, e, hd, hp, hpx, hl0, hl1 => by
    have hf := hd_fact hx h
    have g1 := item_good hx hlen hi rfl (by omega) (by omega) hf.2.2.2.2.2.2 hf.2.2.2.2.1 hf.2.2.2.2.2.1 hl0 hl1
    have hd6 : d + 1 ≤ 6 := by have := g1.deep; have := deep_pos x; omega
    have a0 := g1.at0
    have a1 := g1.at1
    have s1 := g1.size
    have l1 := g1.left
    have d1 := g1.deep
    have e1 := g1.len
    obtain ⟨l2, rfl, g, hk⟩ := open_good hx hlen hr e hd (by omega) a1 l1 (by omega)
    refine ⟨x :: l2, by simp, ⟨?_, g.left, ?_, ?_, ⟨g1.sane, g.sane⟩, ?_, g.at1, ?_⟩, ?_⟩
    · have := g.size; simp only [sizes]; omega
    · have := g.deep; simp only [deeps]; omega
    · simp [fines, g1.fine, g.fine]
    · have := g.at0; omega
    · have := g.len; simp only [encs, List.length_append]; omega
    · simp only [encs, List.length_append]; omega
end
theorem piece_err {xs acc : List Int} {m n p left e : Int} (h : piece xs acc m n p left = .err e) : e ≠ 0 := by
  unfold piece at h
  split at h
  · injection h with h; omega
  · split at h
    · injection h with h; omega
    · cases h
theorem chunks_err {xs : List Int} {m left : Int} : ∀ {acc : List Int} {p : Int} {r : Res (List Int)}, ChunksR xs m left acc p r → ∀ {e : Int}, r = .err e → e ≠ 0 := by
  intro acc p r h
  induction h with
  | bad _ he => intro e h; injection h with h; omega
  | stop _ _ => intro e h; cases h
  | form _ _ _ => intro e h; injection h with h; omega
  | cut _ hp => intro e h; injection h with h; have := piece_err hp; omega
  | more _ _ _ ih => exact ih
theorem body_err {xs : List Int} {m n p left e : Int} {o : Bool} (h : BodyR xs m n o p left (.err e)) : e ≠ 0 := by
  unfold BodyR at h
  cases o
  · exact piece_err (by simpa using h)
  · exact chunks_err (by simpa using h) rfl
mutual
theorem item_err {xs : List Int} : ∀ {d : Nat} {m n : Int} {o : Bool} {p left : Int} {r : Res Itm}, ItemR xs d m n o p left r → ∀ {e : Int}, r = .err e → e ≠ 0
  | _, _, _, _, _, _, _, .form _, e, h => by injection h with h; omega
  | _, _, _, _, _, _, _, .deep _ _, e, h => by injection h with h; omega
  | _, _, _, _, _, _, _, .long _ _, e, h => by injection h with h; omega
  | _, _, _, _, _, _, _, .num _ _, e, h => by cases h
  | _, _, _, _, _, _, _, .body _ _ _ _, e, h => by cases h
  | _, _, _, _, _, _, _, .bodyE _ _ _ hb, e, h => by injection h with h; have := body_err hb; omega
  | _, _, _, _, _, _, _, .open_ _ _ _, e, h => by cases h
  | _, _, _, _, _, _, _, .openE _ _ hb, e, h => by injection h with h; have := open_err hb rfl; omega
  | _, _, _, _, _, _, _, .need _ _ _, e, h => by injection h with h; omega
  | _, _, _, _, _, _, _, .many _ _ _ _, e, h => by cases h
  | _, _, _, _, _, _, _, .manyE _ _ _ hb, e, h => by injection h with h; have := many_err hb rfl; omega
theorem many_err {xs : List Int} : ∀ {d k : Nat} {acc : List Itm} {p left : Int} {r : Res (List Itm)}, ManyR xs d k acc p left r → ∀ {e : Int}, r = .err e → e ≠ 0
  | _, _, _, _, _, _, .done, e, h => by cases h
  | _, _, _, _, _, _, .bad _ he, e, h => by injection h with h; omega
  | _, _, _, _, _, _, .cut _ hi, e, h => by injection h with h; have := item_err hi rfl; omega
  | _, _, _, _, _, _, .more _ _ hr, e, h => many_err hr h
theorem open_err {xs : List Int} : ∀ {d : Nat} {acc : List Itm} {p left : Int} {r : Res (List Itm)}, OpenR xs d acc p left r → ∀ {e : Int}, r = .err e → e ≠ 0
  | _, _, _, _, _, .bad _ he, e, h => by injection h with h; omega
  | _, _, _, _, _, .stop _ _, e, h => by cases h
  | _, _, _, _, _, .cut _ _ hi, e, h => by injection h with h; have := item_err hi rfl; omega
  | _, _, _, _, _, .more _ _ _ hr, e, h => open_err hr h
end
theorem read_err {xs : List Int} {p e : Int} (h : ReadR xs p (.err e)) : e ≠ 0 := by
  cases h with
  | bad _ he => exact he
  | item _ hi => exact item_err hi rfl
/-- What Read reads is right, within bounds, and not longer when written. -/
theorem read_good {xs : List Int} (hx : St.bts xs) (hlen : xs.length ≤ 4294967295) {p : Int} {x : Itm} {p' l' : Int} (h : ReadR xs p (.ok x p' l')) : right x = true ∧ sane x ∧ 0 ≤ p ∧ p ≤ p' ∧ p' ≤ xs.length ∧ ((enc x).length : Int) ≤ p' - p := by
  cases h with
  | item h hi =>
    have hf := hd_fact hx h
    have g := item_good hx hlen hi rfl (by omega) (by omega) hf.2.2.2.2.2.2 hf.2.2.2.2.1 hf.2.2.2.2.2.1 (by omega) (by omega)
    have a0 := g.at0
    have s := g.size
    have l := g.left
    have d := g.deep
    have e := g.len
    refine ⟨?_, g.sane, hf.1, by omega, g.at1, by omega⟩
    unfold right
    simp only [g.fine, Bool.and_true, Bool.and_eq_true, decide_eq_true_eq]
    omega
end Go.Proofs.YtoieadbifhealaaDoor.Cb
