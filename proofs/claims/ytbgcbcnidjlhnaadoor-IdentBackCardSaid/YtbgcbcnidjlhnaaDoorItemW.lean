/- How an item lies in memory: four cells; its bytes and its list behind heads, in blocks from lo on and below hi. No program is named here. -/
import Derived.Test.YtbgcbcnidjlhnaaDoorWords
import Derived.Test.YtbgcbcnidjlhnaaDoorItem
namespace Go.Proofs.YtbgcbcnidjlhnaaDoor.Cb
open Go.RowKit Wd

/-- The slice head A leads to these cells, in a block from lo on and below hi. -/
def Seg (w : World) (lo hi : Nat) (A : Option Addr) (vs : List Value) : Prop :=
  vs = [] ∨ ∃ b o, A = some ⟨b, o, none⟩ ∧ lo ≤ b ∧ b < hi ∧ ∀ j, j < vs.length → w.cell? ⟨b, o + j, none⟩ = vs[j]?

section
variable {w w' : World} {lo hi lo' hi' : Nat} {A : Option Addr} {vs : List Value}
theorem Seg.nil : Seg w lo hi A [] := .inl rfl
theorem Seg.lst (h : Seg w lo hi A vs) : Lst w hi A vs := by
  rcases h with h | ⟨b, o, e, _, hb, hc⟩
  · exact .inl h
  · exact .inr ⟨b, o, e, hb, hc⟩
theorem Seg.of_lst (h : Lst w hi A vs) : Seg w 0 hi A vs := by
  rcases h with h | ⟨b, o, e, hb, hc⟩
  · exact .inl h
  · exact .inr ⟨b, o, e, Nat.zero_le _, hb, hc⟩
theorem Seg.keep (h : Seg w lo hi A vs) (hk : ∀ p : Addr, lo ≤ p.block → p.block < hi → w'.cell? p = w.cell? p) : Seg w' lo hi A vs := by
  rcases h with h | ⟨b, o, e, hl, hb, hc⟩
  · exact .inl h
  · exact .inr ⟨b, o, e, hl, hb, fun j hj => (hk _ hl hb).trans (hc j hj)⟩
theorem Seg.more (h : Seg w lo hi A vs) (h1 : lo' ≤ lo) (h2 : hi ≤ hi') : Seg w lo' hi' A vs := by
  rcases h with h | ⟨b, o, e, hl, hb, hc⟩
  · exact .inl h
  · exact .inr ⟨b, o, e, by omega, by omega, hc⟩
theorem Seg.below (h : Seg w lo hi A vs) (hb : Below hi w w') : Seg w' lo hi A vs := h.keep fun _ _ hp => hb.cell hp
theorem Seg.at_ (h : Seg w lo hi A vs) {k : Nat} (hk : k < vs.length) : ∃ b o, A = some ⟨b, o, none⟩ ∧ lo ≤ b ∧ b < hi ∧ ∀ j, j < vs.length → w.cell? ⟨b, o + j, none⟩ = vs[j]? := by
  rcases h with h | h
  · simp [h] at hk
  · exact h
theorem Seg.of_own {base n cap s : Nat} {e : TypeId} (h : w.ownsRow base e s (.slice A n cap) n vs) : Seg w base w.heap.size A vs := by
  rcases h.2 with ⟨h', hn⟩ | ⟨g, cap', cur, h', _⟩
  · have hl := h.1
    subst hn
    exact .inl (List.eq_nil_of_length_eq_zero (by simpa using hl))
  · injection h' with hA _ hc
    subst hA
    subst hc
    refine .inr ⟨g, 0, rfl, (h.lt g rfl).1, (h.lt g rfl).2, fun j hj => ?_⟩
    have := h.cellAt j (by have := h.1; omega)
    simpa using this
end

mutual
/-- An item in four cells. -/
def Rep (w : World) (lo hi : Nat) : Itm → List Value → Prop
  | .mk k n b l, cs => ∃ A c A' c' vs, cs = [.int .i64 k, .int .u64 n, .slice A b.length c, .slice A' l.length c'] ∧
      (-9223372036854775808 ≤ k ∧ k ≤ 9223372036854775807) ∧ (0 ≤ n ∧ n ≤ 18446744073709551615) ∧ St.bts b ∧ b.length ≤ c ∧ c ≤ maxLen ∧ Seg w lo hi A (u8s b) ∧
      l.length ≤ c' ∧ c' ≤ maxLen ∧ Seg w lo hi A' vs ∧ Reps w lo hi l vs
/-- Items, one behind the other. -/
def Reps (w : World) (lo hi : Nat) : List Itm → List Value → Prop
  | [], vs => vs = []
  | x :: l, vs => ∃ c r, vs = c ++ r ∧ Rep w lo hi x c ∧ Reps w lo hi l r
end
mutual
theorem Rep.keep {w w' : World} {lo hi : Nat} (hk : ∀ p : Addr, lo ≤ p.block → p.block < hi → w'.cell? p = w.cell? p) : ∀ {x : Itm} {cs : List Value}, Rep w lo hi x cs → Rep w' lo hi x cs
  | .mk k n b l, cs, h => by
    unfold Rep at h ⊢
    obtain ⟨A, c, A', c', vs, h1, h2, h3, h4, h5, h6, h7, h8, h9, h10, h11⟩ := h
    exact ⟨A, c, A', c', vs, h1, h2, h3, h4, h5, h6, h7.keep hk, h8, h9, h10.keep hk, Reps.keep hk h11⟩
theorem Reps.keep {w w' : World} {lo hi : Nat} (hk : ∀ p : Addr, lo ≤ p.block → p.block < hi → w'.cell? p = w.cell? p) : ∀ {l : List Itm} {vs : List Value}, Reps w lo hi l vs → Reps w' lo hi l vs
  | [], vs, h => by unfold Reps at h ⊢; exact h
  | x :: l, vs, h => by
    unfold Reps at h ⊢
    obtain ⟨c, r, h1, h2, h3⟩ := h
    exact ⟨c, r, h1, Rep.keep hk h2, Reps.keep hk h3⟩
end
mutual
theorem Rep.more {w : World} {lo hi lo' hi' : Nat} (h1 : lo' ≤ lo) (h2 : hi ≤ hi') : ∀ {x : Itm} {cs : List Value}, Rep w lo hi x cs → Rep w lo' hi' x cs
  | .mk k n b l, cs, h => by
    unfold Rep at h ⊢
    obtain ⟨A, c, A', c', vs, g1, g2, h3, h4, h5, h6, h7, h8, h9, h10, h11⟩ := h
    exact ⟨A, c, A', c', vs, g1, g2, h3, h4, h5, h6, h7.more h1 h2, h8, h9, h10.more h1 h2, Reps.more h1 h2 h11⟩
theorem Reps.more {w : World} {lo hi lo' hi' : Nat} (h1 : lo' ≤ lo) (h2 : hi ≤ hi') : ∀ {l : List Itm} {vs : List Value}, Reps w lo hi l vs → Reps w lo' hi' l vs
  | [], vs, h => by unfold Reps at h ⊢; exact h
  | x :: l, vs, h => by
    unfold Reps at h ⊢
    obtain ⟨c, r, h3, h4, h5⟩ := h
    exact ⟨c, r, h3, Rep.more h1 h2 h4, Reps.more h1 h2 h5⟩
end
section
variable {w w' : World} {lo hi lo' hi' : Nat} {x : Itm} {cs vs : List Value} {l m : List Itm}
theorem Rep.below (h : Rep w lo hi x cs) (hb : Below hi w w') : Rep w' lo hi x cs := h.keep fun _ _ hp => hb.cell hp
theorem Reps.below (h : Reps w lo hi l vs) (hb : Below hi w w') : Reps w' lo hi l vs := h.keep fun _ _ hp => hb.cell hp
theorem Rep.length (h : Rep w lo hi x cs) : cs.length = 4 := by
  cases x
  unfold Rep at h
  obtain ⟨A, c, A', c', vs, rfl, _⟩ := h
  rfl
theorem Reps.length : ∀ {l : List Itm} {vs : List Value}, Reps w lo hi l vs → vs.length = l.length * 4
  | [], vs, h => by unfold Reps at h; simp [h]
  | x :: l, vs, h => by
    unfold Reps at h
    obtain ⟨c, r, rfl, h1, h2⟩ := h
    have := h1.length
    have := h2.length
    simp; omega
theorem Reps.append : ∀ {l : List Itm} {vs : List Value} {m : List Itm} {us : List Value}, Reps w lo hi l vs → Reps w lo hi m us → Reps w lo hi (l ++ m) (vs ++ us)
  | [], vs, m, us, h, h' => by unfold Reps at h; subst h; simpa using h'
  | x :: l, vs, m, us, h, h' => by
    unfold Reps at h
    obtain ⟨c, r, rfl, h1, h2⟩ := h
    show Reps w lo hi (x :: (l ++ m)) _
    unfold Reps
    exact ⟨c, r ++ us, by simp, h1, h2.append h'⟩
theorem Reps.one (h : Rep w lo hi x cs) : Reps w lo hi [x] cs := by
  unfold Reps
  exact ⟨cs, [], by simp, h, by unfold Reps; rfl⟩
theorem Reps.none_ : Reps w lo hi [] [] := by unfold Reps; rfl
theorem Reps.get : ∀ {l : List Itm} {vs : List Value} {k : Nat} (hk : k < l.length), Reps w lo hi l vs → Rep w lo hi l[k] ((vs.drop (k * 4)).take 4)
  | x :: l, vs, 0, _, h => by
    unfold Reps at h
    obtain ⟨c, r, rfl, h1, h2⟩ := h
    have := h1.length
    simpa [List.take_append, this] using h1
  | x :: l, vs, k + 1, hk, h => by
    unfold Reps at h
    obtain ⟨c, r, rfl, h1, h2⟩ := h
    have h3 := h1.length
    have h4 := Reps.get (k := k) (by simpa using hk) h2
    have e : (c ++ r).drop ((k + 1) * 4) = r.drop (k * 4) := by
      rw [List.drop_append, List.drop_of_length_le (by omega), show (k + 1) * 4 - c.length = k * 4 by omega, List.nil_append]
    rw [e]
    exact h4
end

/-- An item that is handed over by value. -/
def ItemV (w : World) (lo hi : Nat) (x : Itm) (v : Value) : Prop := ∃ cs : List Value, v = .agg cs.toArray ∧ Rep w lo hi x cs
/-- Items behind a slice's head. -/
def ItemsV (w : World) (lo hi : Nat) (l : List Itm) (A : Option Addr) : Prop := ∃ vs, Seg w lo hi A vs ∧ Reps w lo hi l vs
section
variable {w w' : World} {lo hi lo' hi' : Nat} {x : Itm} {v : Value} {l : List Itm} {A : Option Addr}
theorem ItemV.below (h : ItemV w lo hi x v) (hb : Below hi w w') : ItemV w' lo hi x v := let ⟨cs, e, r⟩ := h; ⟨cs, e, r.below hb⟩
theorem ItemV.more (h : ItemV w lo hi x v) (h1 : lo' ≤ lo) (h2 : hi ≤ hi') : ItemV w lo' hi' x v := let ⟨cs, e, r⟩ := h; ⟨cs, e, r.more h1 h2⟩
theorem ItemV.keep (h : ItemV w lo hi x v) (hk : ∀ p : Addr, lo ≤ p.block → p.block < hi → w'.cell? p = w.cell? p) : ItemV w' lo hi x v := let ⟨cs, e, r⟩ := h; ⟨cs, e, r.keep hk⟩
theorem ItemsV.below (h : ItemsV w lo hi l A) (hb : Below hi w w') : ItemsV w' lo hi l A := let ⟨cs, e, r⟩ := h; ⟨cs, e.below hb, r.below hb⟩
theorem ItemsV.more (h : ItemsV w lo hi l A) (h1 : lo' ≤ lo) (h2 : hi ≤ hi') : ItemsV w lo' hi' l A := let ⟨cs, e, r⟩ := h; ⟨cs, e.more h1 h2, r.more h1 h2⟩
theorem ItemsV.keep (h : ItemsV w lo hi l A) (hk : ∀ p : Addr, lo ≤ p.block → p.block < hi → w'.cell? p = w.cell? p) : ItemsV w' lo hi l A := let ⟨cs, e, r⟩ := h; ⟨cs, e.keep hk, r.keep hk⟩
theorem ItemsV.nil : ItemsV w lo hi [] A := ⟨[], .nil, .none_⟩
/-- What an item's four cells are. -/
theorem Rep.open_ {cs : List Value} (h : Rep w lo hi x cs) : ∃ A c A' c', cs = [.int .i64 x.kind, .int .u64 x.num, .slice A x.bs.length c, .slice A' x.sub.length c'] ∧
      (-9223372036854775808 ≤ x.kind ∧ x.kind ≤ 9223372036854775807) ∧ (0 ≤ x.num ∧ x.num ≤ 18446744073709551615) ∧ St.bts x.bs ∧ x.bs.length ≤ c ∧ c ≤ maxLen ∧ Seg w lo hi A (u8s x.bs) ∧
      x.sub.length ≤ c' ∧ c' ≤ maxLen ∧ ItemsV w lo hi x.sub A' := by
  cases x
  unfold Rep at h
  obtain ⟨A, c, A', c', vs, h1, h2, h3, h4, h5, h6, h7, h8, h9, h10, h11⟩ := h
  exact ⟨A, c, A', c', h1, h2, h3, h4, h5, h6, h7, h8, h9, vs, h10, h11⟩
theorem Rep.mk {k n : Int} {b : List Int} {l : List Itm} {A A' : Option Addr} {c c' : Nat} (hk : -9223372036854775808 ≤ k ∧ k ≤ 9223372036854775807) (hn : 0 ≤ n ∧ n ≤ 18446744073709551615) (hb : St.bts b)
    (h1 : b.length ≤ c) (h2 : c ≤ maxLen) (h3 : Seg w lo hi A (u8s b)) (h4 : l.length ≤ c') (h5 : c' ≤ maxLen) (h6 : ItemsV w lo hi l A') :
    Rep w lo hi (.mk k n b l) [.int .i64 k, .int .u64 n, .slice A b.length c, .slice A' l.length c'] := by
  obtain ⟨vs, h6, h7⟩ := h6
  unfold Rep
  exact ⟨A, c, A', c', vs, rfl, hk, hn, hb, h1, h2, h3, h4, h5, h6, h7⟩
theorem ItemV.open_ (h : ItemV w lo hi x v) : ∃ A c A' c', v = .agg #[.int .i64 x.kind, .int .u64 x.num, .slice A x.bs.length c, .slice A' x.sub.length c'] ∧
      (-9223372036854775808 ≤ x.kind ∧ x.kind ≤ 9223372036854775807) ∧ (0 ≤ x.num ∧ x.num ≤ 18446744073709551615) ∧ St.bts x.bs ∧ x.bs.length ≤ c ∧ c ≤ maxLen ∧ Seg w lo hi A (u8s x.bs) ∧
      x.sub.length ≤ c' ∧ c' ≤ maxLen ∧ ItemsV w lo hi x.sub A' := by
  obtain ⟨cs, e, r⟩ := h
  obtain ⟨A, c, A', c', rfl, h⟩ := r.open_
  exact ⟨A, c, A', c', e, h⟩
theorem ItemV.mk {k n : Int} {b : List Int} {l : List Itm} {A A' : Option Addr} {c c' : Nat} (hk : -9223372036854775808 ≤ k ∧ k ≤ 9223372036854775807) (hn : 0 ≤ n ∧ n ≤ 18446744073709551615) (hb : St.bts b)
    (h1 : b.length ≤ c) (h2 : c ≤ maxLen) (h3 : Seg w lo hi A (u8s b)) (h4 : l.length ≤ c') (h5 : c' ≤ maxLen) (h6 : ItemsV w lo hi l A') :
    ItemV w lo hi (.mk k n b l) (.agg #[.int .i64 k, .int .u64 n, .slice A b.length c, .slice A' l.length c']) := ⟨_, rfl, Rep.mk hk hn hb h1 h2 h3 h4 h5 h6⟩
/-- Its parts by their names. -/
theorem ItemV.of {A A' : Option Addr} {c c' : Nat} (hk : -9223372036854775808 ≤ x.kind ∧ x.kind ≤ 9223372036854775807) (hn : 0 ≤ x.num ∧ x.num ≤ 18446744073709551615) (hb : St.bts x.bs)
    (h1 : x.bs.length ≤ c) (h2 : c ≤ maxLen) (h3 : Seg w lo hi A (u8s x.bs)) (h4 : x.sub.length ≤ c') (h5 : c' ≤ maxLen) (h6 : ItemsV w lo hi x.sub A') :
    ItemV w lo hi x (.agg #[.int .i64 x.kind, .int .u64 x.num, .slice A x.bs.length c, .slice A' x.sub.length c']) := by
  cases x
  exact ItemV.mk hk hn hb h1 h2 h3 h4 h5 h6
/-- The k-th of items behind a head: where its cells are, and what they hold. -/
theorem ItemsV.at_ (h : ItemsV w lo hi l A) {k : Nat} (hk : k < l.length) : ∃ b o A1 c A2 c', A = some ⟨b, o, none⟩ ∧ lo ≤ b ∧ b < hi ∧
      w.cell? ⟨b, o + k * 4, none⟩ = some (.int .i64 l[k].kind) ∧ w.cell? ⟨b, o + k * 4 + 1, none⟩ = some (.int .u64 l[k].num) ∧
      w.cell? ⟨b, o + k * 4 + 2, none⟩ = some (.slice A1 l[k].bs.length c) ∧ w.cell? ⟨b, o + k * 4 + 3, none⟩ = some (.slice A2 l[k].sub.length c') ∧
      (-9223372036854775808 ≤ l[k].kind ∧ l[k].kind ≤ 9223372036854775807) ∧ (0 ≤ l[k].num ∧ l[k].num ≤ 18446744073709551615) ∧ St.bts l[k].bs ∧ l[k].bs.length ≤ c ∧ c ≤ maxLen ∧ Seg w lo hi A1 (u8s l[k].bs) ∧
      l[k].sub.length ≤ c' ∧ c' ≤ maxLen ∧ ItemsV w lo hi l[k].sub A2 := by
  obtain ⟨vs, hs, hr⟩ := h
  have hl := hr.length
  have hg := hr.get hk
  obtain ⟨b, o, rfl, h1, h2, hc⟩ := hs.at_ (k := k * 4) (by omega)
  obtain ⟨A1, c, A2, c', e, h⟩ := hg.open_
  have hat : ∀ f, f < 4 → vs[k * 4 + f]? = ((vs.drop (k * 4)).take 4)[f]? := fun f hf => by
    rw [List.getElem?_take, if_pos hf, List.getElem?_drop]
  have k0 := hat 0 (by omega)
  have k1 := hat 1 (by omega)
  have k2 := hat 2 (by omega)
  have k3 := hat 3 (by omega)
  rw [e] at k0 k1 k2 k3
  refine ⟨b, o, A1, c, A2, c', rfl, h1, h2, ?_, ?_, ?_, ?_, h⟩
  · rw [hc _ (by omega)]; simpa using k0
  · rw [Nat.add_assoc, hc _ (by omega)]; simpa using k1
  · rw [Nat.add_assoc, hc _ (by omega)]; simpa using k2
  · rw [Nat.add_assoc, hc _ (by omega)]; simpa using k3
end

/-- A store elsewhere leaves it alone. -/
theorem keep_set {w : World} {lo hi : Nat} {p : Addr} (hp : p.block < lo ∨ hi ≤ p.block) (u : Value) : ∀ q : Addr, lo ≤ q.block → q.block < hi → (w.setCell p u).cell? q = w.cell? q :=
  fun q h1 h2 => World.cell?_setCell_other w p q u (fun e => by subst e; omega)
theorem keep_alloc {w : World} {lo hi : Nat} (hh : hi ≤ w.heap.size) (o : Obj) : ∀ q : Addr, lo ≤ q.block → q.block < hi → (w.alloc o).cell? q = w.cell? q :=
  fun q _ h2 => World.cell?_alloc_lt w o q (by omega)
theorem keep_grown {w w' : World} {lo hi g : Nat} (h : w.grownBy w' (some g)) (hh : hi ≤ w.heap.size) (hg : g < lo ∨ hi ≤ g) : ∀ q : Addr, lo ≤ q.block → q.block < hi → w'.cell? q = w.cell? q :=
  fun q h1 h2 => World.cell?_of_block (h.block q.block (by omega) (fun e => by injection e; omega))
section
variable {w w' : World} {lo hi : Nat} {x : Itm} {v : Value} {l : List Itm} {A : Option Addr} {vs : List Value}
theorem Seg.set_ (h : Seg w lo hi A vs) {p : Addr} (hp : p.block < lo ∨ hi ≤ p.block) (u : Value) : Seg (w.setCell p u) lo hi A vs := h.keep (keep_set hp u)
theorem ItemV.set_ (h : ItemV w lo hi x v) {p : Addr} (hp : p.block < lo ∨ hi ≤ p.block) (u : Value) : ItemV (w.setCell p u) lo hi x v := h.keep (keep_set hp u)
theorem ItemsV.set_ (h : ItemsV w lo hi l A) {p : Addr} (hp : p.block < lo ∨ hi ≤ p.block) (u : Value) : ItemsV (w.setCell p u) lo hi l A := h.keep (keep_set hp u)
theorem Seg.set4 (h : Seg w lo hi A vs) {b : Nat} (hp : b < lo ∨ hi ≤ b) (a c d e : Value) : Seg ((((w.setCell ⟨b, 0, none⟩ a).setCell ⟨b, 1, none⟩ c).setCell ⟨b, 2, none⟩ d).setCell ⟨b, 3, none⟩ e) lo hi A vs :=
  (((h.set_ (p := ⟨b, 0, none⟩) hp a).set_ (p := ⟨b, 1, none⟩) hp c).set_ (p := ⟨b, 2, none⟩) hp d).set_ (p := ⟨b, 3, none⟩) hp e
theorem ItemsV.set4 (h : ItemsV w lo hi l A) {b : Nat} (hp : b < lo ∨ hi ≤ b) (a c d e : Value) : ItemsV ((((w.setCell ⟨b, 0, none⟩ a).setCell ⟨b, 1, none⟩ c).setCell ⟨b, 2, none⟩ d).setCell ⟨b, 3, none⟩ e) lo hi l A :=
  (((h.set_ (p := ⟨b, 0, none⟩) hp a).set_ (p := ⟨b, 1, none⟩) hp c).set_ (p := ⟨b, 2, none⟩) hp d).set_ (p := ⟨b, 3, none⟩) hp e
theorem ItemV.set4 (h : ItemV w lo hi x v) {b : Nat} (hp : b < lo ∨ hi ≤ b) (a c d e : Value) : ItemV ((((w.setCell ⟨b, 0, none⟩ a).setCell ⟨b, 1, none⟩ c).setCell ⟨b, 2, none⟩ d).setCell ⟨b, 3, none⟩ e) lo hi x v :=
  (((h.set_ (p := ⟨b, 0, none⟩) hp a).set_ (p := ⟨b, 1, none⟩) hp c).set_ (p := ⟨b, 2, none⟩) hp d).set_ (p := ⟨b, 3, none⟩) hp e
theorem Seg.alloc (h : Seg w lo hi A vs) (hh : hi ≤ w.heap.size) (o : Obj) : Seg (w.alloc o) lo hi A vs := h.keep (keep_alloc hh o)
theorem ItemV.alloc (h : ItemV w lo hi x v) (hh : hi ≤ w.heap.size) (o : Obj) : ItemV (w.alloc o) lo hi x v := h.keep (keep_alloc hh o)
theorem ItemsV.alloc (h : ItemsV w lo hi l A) (hh : hi ≤ w.heap.size) (o : Obj) : ItemsV (w.alloc o) lo hi l A := h.keep (keep_alloc hh o)
theorem Seg.grown (h : Seg w lo hi A vs) {g : Nat} (hg : w.grownBy w' (some g)) (hh : hi ≤ w.heap.size) (hn : g < lo ∨ hi ≤ g) : Seg w' lo hi A vs := h.keep (keep_grown hg hh hn)
theorem ItemV.grown (h : ItemV w lo hi x v) {g : Nat} (hg : w.grownBy w' (some g)) (hh : hi ≤ w.heap.size) (hn : g < lo ∨ hi ≤ g) : ItemV w' lo hi x v := h.keep (keep_grown hg hh hn)
theorem ItemsV.grown (h : ItemsV w lo hi l A) {g : Nat} (hg : w.grownBy w' (some g)) (hh : hi ≤ w.heap.size) (hn : g < lo ∨ hi ≤ g) : ItemsV w' lo hi l A := h.keep (keep_grown hg hh hn)
end
section
variable {w : World} {lo hi : Nat} {x : Itm} {v : Value} {l : List Itm} {A : Option Addr} {vs : List Value}
theorem Seg.drew (h : Seg w lo hi A vs) : Seg w.drew lo hi A vs := Seg.keep (w := w) (w' := w.drew) h fun _ _ _ => rfl
theorem Reps.drew (h : Reps w lo hi l vs) : Reps w.drew lo hi l vs := Reps.keep (w := w) (w' := w.drew) (fun _ _ _ => rfl) h
theorem ItemV.drew (h : ItemV w lo hi x v) : ItemV w.drew lo hi x v := ItemV.keep (w := w) (w' := w.drew) h fun _ _ _ => rfl
theorem ItemsV.drew (h : ItemsV w lo hi l A) : ItemsV w.drew lo hi l A := ItemsV.keep (w := w) (w' := w.drew) h fun _ _ _ => rfl
theorem Seg.drewN (h : Seg w lo hi A vs) (n : Nat) : Seg (w.drewN n) lo hi A vs := Seg.keep (w := w) (w' := w.drewN n) h fun _ _ _ => rfl
theorem ItemV.drewN (h : ItemV w lo hi x v) (n : Nat) : ItemV (w.drewN n) lo hi x v := ItemV.keep (w := w) (w' := w.drewN n) h fun _ _ _ => rfl
theorem ItemsV.drewN (h : ItemsV w lo hi l A) (n : Nat) : ItemsV (w.drewN n) lo hi l A := ItemsV.keep (w := w) (w' := w.drewN n) h fun _ _ _ => rfl
end
end Go.Proofs.YtbgcbcnidjlhnaaDoor.Cb
