/- How an item is read: what happens, step by step, as a relation; it is of one outcome. Plain: no program is named here. -/
import Derived.Test.YtoieadbifhealaaDoorItemE
import Derived.Test.YtoieadbifhealaaDoorHeadBackP
namespace Go.Proofs.YtoieadbifhealaaDoor.Cb

/-- What comes: something, the place behind it, and how many items may still begin; or an error. -/
inductive Res (α : Type) where
  | ok (a : α) (at_ left : Int)
  | err (e : Int)

/-- The end of what is open. -/
def ends (m n : Int) (o : Bool) : Bool := m == 7 && n == 0 && o
def mayBe (m : Int) : Prop := m = 0 ∨ m = 2 ∨ m = 3 ∨ m = 4
/-- So many bytes from a place on. -/
def chunk (xs : List Int) (p n : Int) : List Int := (xs.drop p.toNat).take n.toNat
/-- A piece of bytes or of a text. -/
def piece (xs acc : List Int) (m n p left : Int) : Res (List Int) :=
  if (xs.length : Int) - p < n then .err 8 else if m = 3 ∧ U8.utf8 (chunk xs p n) = false then .err 3 else .ok (acc ++ chunk xs p n) (p + n) left

/-- Pieces till the end. -/
inductive ChunksR (xs : List Int) (m left : Int) : List Int → Int → Res (List Int) → Prop
  | bad {acc p a n o j e} (h : HeadP.read xs p = (a, n, o, j, e)) (he : e ≠ 0) : ChunksR xs m left acc p (.err e)
  | stop {acc p a n o j} (h : HeadP.read xs p = (a, n, o, j, 0)) (he : ends a n o = true) : ChunksR xs m left acc p (.ok acc j left)
  | form {acc p a n o j} (h : HeadP.read xs p = (a, n, o, j, 0)) (he : ends a n o = false) (hf : o = true ∨ a ≠ m) : ChunksR xs m left acc p (.err 3)
  | cut {acc p n j e} (h : HeadP.read xs p = (m, n, false, j, 0)) (hp : piece xs acc m n j left = .err e) : ChunksR xs m left acc p (.err e)
  | more {acc p n j acc' j' l' r} (h : HeadP.read xs p = (m, n, false, j, 0)) (hp : piece xs acc m n j left = .ok acc' j' l') (hr : ChunksR xs m left acc' j' r) : ChunksR xs m left acc p r
/-- Bytes or a text behind its head. -/
def BodyR (xs : List Int) (m n : Int) (o : Bool) (p left : Int) (r : Res (List Int)) : Prop :=
  if o = true then ChunksR xs m left [] p r else piece xs [] m n p left = r

mutual
/-- An item behind its head. -/
inductive ItemR (xs : List Int) : Nat → Int → Int → Bool → Int → Int → Res Itm → Prop
  | form {d m n o p left} (h : ¬ mayBe m) : ItemR xs d m n o p left (.err 3)
  | deep {d m n o p left} (h : mayBe m) (hd : 6 < d) : ItemR xs d m n o p left (.err 9)
  | long {d m n o p} (h : mayBe m) (hd : d ≤ 6) : ItemR xs d m n o p 0 (.err 2)
  | num {d n o p left} (hd : d ≤ 6) (hl : left ≠ 0) : ItemR xs d 0 n o p left (.ok (.mk 0 n [] []) p (left - 1))
  | body {d m n o p left b p' l'} (h : m = 2 ∨ m = 3) (hd : d ≤ 6) (hl : left ≠ 0) (hb : BodyR xs m n o p (left - 1) (.ok b p' l')) : ItemR xs d m n o p left (.ok (.mk m 0 b []) p' l')
  | bodyE {d m n o p left e} (h : m = 2 ∨ m = 3) (hd : d ≤ 6) (hl : left ≠ 0) (hb : BodyR xs m n o p (left - 1) (.err e)) : ItemR xs d m n o p left (.err e)
  | open_ {d n p left l p' l'} (hd : d ≤ 6) (hl : left ≠ 0) (hb : OpenR xs d [] p (left - 1) (.ok l p' l')) : ItemR xs d 4 n true p left (.ok (.mk 4 0 [] l) p' l')
  | openE {d n p left e} (hd : d ≤ 6) (hl : left ≠ 0) (hb : OpenR xs d [] p (left - 1) (.err e)) : ItemR xs d 4 n true p left (.err e)
  | need {d n p left} (hd : d ≤ 6) (hl : left ≠ 0) (hn : (xs.length : Int) - p < n) : ItemR xs d 4 n false p left (.err 8)
  | many {d n p left l p' l'} (hd : d ≤ 6) (hl : left ≠ 0) (hn : ¬ (xs.length : Int) - p < n) (hb : ManyR xs d n.toNat [] p (left - 1) (.ok l p' l')) : ItemR xs d 4 n false p left (.ok (.mk 4 0 [] l) p' l')
  | manyE {d n p left e} (hd : d ≤ 6) (hl : left ≠ 0) (hn : ¬ (xs.length : Int) - p < n) (hb : ManyR xs d n.toNat [] p (left - 1) (.err e)) : ItemR xs d 4 n false p left (.err e)
/-- So many items. -/
inductive ManyR (xs : List Int) : Nat → Nat → List Itm → Int → Int → Res (List Itm) → Prop
  | done {d acc p left} : ManyR xs d 0 acc p left (.ok acc p left)
  | bad {d k acc p left m n o j e} (h : HeadP.read xs p = (m, n, o, j, e)) (he : e ≠ 0) : ManyR xs d (k + 1) acc p left (.err e)
  | cut {d k acc p left m n o j e} (h : HeadP.read xs p = (m, n, o, j, 0)) (hi : ItemR xs (d + 1) m n o j left (.err e)) : ManyR xs d (k + 1) acc p left (.err e)
  | more {d k acc p left m n o j x p' l' r} (h : HeadP.read xs p = (m, n, o, j, 0)) (hi : ItemR xs (d + 1) m n o j left (.ok x p' l')) (hr : ManyR xs d k (acc ++ [x]) p' l' r) : ManyR xs d (k + 1) acc p left r
/-- Items till the end. -/
inductive OpenR (xs : List Int) : Nat → List Itm → Int → Int → Res (List Itm) → Prop
  | bad {d acc p left m n o j e} (h : HeadP.read xs p = (m, n, o, j, e)) (he : e ≠ 0) : OpenR xs d acc p left (.err e)
  | stop {d acc p left m n o j} (h : HeadP.read xs p = (m, n, o, j, 0)) (he : ends m n o = true) : OpenR xs d acc p left (.ok acc j left)
  | cut {d acc p left m n o j e} (h : HeadP.read xs p = (m, n, o, j, 0)) (he : ends m n o = false) (hi : ItemR xs (d + 1) m n o j left (.err e)) : OpenR xs d acc p left (.err e)
  | more {d acc p left m n o j x p' l' r} (h : HeadP.read xs p = (m, n, o, j, 0)) (he : ends m n o = false) (hi : ItemR xs (d + 1) m n o j left (.ok x p' l')) (hr : OpenR xs d (acc ++ [x]) p' l' r) : OpenR xs d acc p left r
end
/-- The item at a place. -/
inductive ReadR (xs : List Int) (p : Int) : Res Itm → Prop
  | bad {m n o j e} (h : HeadP.read xs p = (m, n, o, j, e)) (he : e ≠ 0) : ReadR xs p (.err e)
  | item {m n o j r} (h : HeadP.read xs p = (m, n, o, j, 0)) (hi : ItemR xs 1 m n o j 256 r) : ReadR xs p r

theorem hd_inj {xs : List Int} {p m n j e m' n' j' e' : Int} {o o' : Bool} (h : HeadP.read xs p = (m, n, o, j, e)) (h' : HeadP.read xs p = (m', n', o', j', e')) : m = m' ∧ n = n' ∧ o = o' ∧ j = j' ∧ e = e' := by
  rw [h] at h'
  simpa using h'

theorem chunks_det {xs : List Int} {m left : Int} : ∀ {acc : List Int} {p : Int} {r r' : Res (List Int)}, ChunksR xs m left acc p r → ChunksR xs m left acc p r' → r = r' := by
  intro acc p r r' h
  induction h with
  | bad h he =>
    intro h'
    cases h' with
    | bad h2 he2 => obtain ⟨_, _, _, rfl, rfl⟩ := hd_inj h h2; rfl
    | stop h2 _ => exact absurd (hd_inj h h2).2.2.2.2 (by omega)
    | form h2 _ _ => exact absurd (hd_inj h h2).2.2.2.2 (by omega)
    | cut h2 _ => exact absurd (hd_inj h h2).2.2.2.2 (by omega)
    | more h2 _ _ => exact absurd (hd_inj h h2).2.2.2.2 (by omega)
  | stop h he =>
    intro h'
    cases h' with
    | bad h2 he2 => exact absurd (hd_inj h h2).2.2.2.2 (by omega)
    | stop h2 _ => obtain ⟨_, _, _, rfl, _⟩ := hd_inj h h2; rfl
    | form h2 he2 _ => obtain ⟨rfl, rfl, rfl, rfl, _⟩ := hd_inj h h2; rw [he] at he2; cases he2
    | cut h2 _ => obtain ⟨rfl, rfl, rfl, rfl, _⟩ := hd_inj h h2; simp [ends] at he
    | more h2 _ _ => obtain ⟨rfl, rfl, rfl, rfl, _⟩ := hd_inj h h2; simp [ends] at he
  | form h he hf =>
    intro h'
    cases h' with
    | bad h2 he2 => exact absurd (hd_inj h h2).2.2.2.2 (by omega)
    | stop h2 he2 => obtain ⟨rfl, rfl, rfl, rfl, _⟩ := hd_inj h h2; rw [he] at he2; cases he2
    | form h2 he2 _ => rfl
    | cut h2 _ => obtain ⟨rfl, rfl, rfl, rfl, _⟩ := hd_inj h h2; simp at hf
    | more h2 _ _ => obtain ⟨rfl, rfl, rfl, rfl, _⟩ := hd_inj h h2; simp at hf
  | cut h hp =>
    intro h'
    cases h' with
    | bad h2 he2 => exact absurd (hd_inj h h2).2.2.2.2 (by omega)
    | stop h2 he2 => obtain ⟨rfl, rfl, rfl, rfl, _⟩ := hd_inj h h2; simp [ends] at he2
    | form h2 he2 hf => obtain ⟨rfl, rfl, rfl, rfl, _⟩ := hd_inj h h2; simp at hf
    | cut h2 hp2 => obtain ⟨_, rfl, _, rfl, _⟩ := hd_inj h h2; rw [hp] at hp2; exact congrArg _ (by injection hp2)
    | more h2 hp2 _ => obtain ⟨_, rfl, _, rfl, _⟩ := hd_inj h h2; rw [hp] at hp2; cases hp2
  | more h hp hr ih =>
    intro h'
    cases h' with
    | bad h2 he2 => exact absurd (hd_inj h h2).2.2.2.2 (by omega)
    | stop h2 he2 => obtain ⟨rfl, rfl, rfl, rfl, _⟩ := hd_inj h h2; simp [ends] at he2
    | form h2 he2 hf => obtain ⟨rfl, rfl, rfl, rfl, _⟩ := hd_inj h h2; simp at hf
    | cut h2 hp2 => obtain ⟨_, rfl, _, rfl, _⟩ := hd_inj h h2; rw [hp] at hp2; cases hp2
    | more h2 hp2 hr2 =>
      obtain ⟨_, rfl, _, rfl, _⟩ := hd_inj h h2
      rw [hp] at hp2
      injection hp2 with e1 e2 e3
      subst e1 e2 e3
      exact ih hr2
theorem chunks_left {xs : List Int} {m left : Int} : ∀ {acc : List Int} {p : Int} {r : Res (List Int)}, ChunksR xs m left acc p r → ∀ {b : List Int} {p' l' : Int}, r = .ok b p' l' → l' = left := by
  intro acc p r h
  induction h with
  | bad _ _ => intro b p' l' e; cases e
  | stop _ _ => intro b p' l' e; injection e with _ _ e; exact e.symm
  | form _ _ _ => intro b p' l' e; cases e
  | cut _ _ => intro b p' l' e; cases e
  | more _ _ _ ih => exact ih
theorem body_det {xs : List Int} {m n p left : Int} {o : Bool} {r r' : Res (List Int)} (h : BodyR xs m n o p left r) (h' : BodyR xs m n o p left r') : r = r' := by
  unfold BodyR at h h'
  cases o
  · simp at h h'; rw [← h, ← h']
  · simp at h h'; exact chunks_det h h'

theorem mb0 : mayBe 0 := .inl rfl
theorem mb4 : mayBe 4 := .inr (.inr (.inr rfl))
theorem mb23 {m : Int} (h : m = 2 ∨ m = 3) : mayBe m := by rcases h with h | h <;> simp [mayBe, h]
mutual
theorem item_det {xs : List Int} : ∀ {d : Nat} {m n : Int} {o : Bool} {p left : Int} {r r' : Res Itm}, ItemR xs d m n o p left r → ItemR xs d m n o p left r' → r = r'
  | _, _, _, _, _, _, _, _, .form h, h' => by
    cases h' with
    | form _ => rfl
    | deep h2 _ => exact absurd h2 h
    | long h2 _ => exact absurd h2 h
    | num _ _ => exact absurd mb0 h
    | body h2 _ _ _ => exact absurd (mb23 h2) h
    | bodyE h2 _ _ _ => exact absurd (mb23 h2) h
    | open_ _ _ _ => exact absurd mb4 h
    | openE _ _ _ => exact absurd mb4 h
    | need _ _ _ => exact absurd mb4 h
    | many _ _ _ _ => exact absurd mb4 h
    | manyE _ _ _ _ => exact absurd mb4 h
  | _, _, _, _, _, _, _, _, .deep h hd, h' => by
    cases h' with
    | form h2 => exact absurd h h2
    | deep _ _ => rfl
    | _ => omega
  | _, _, _, _, _, _, _, _, .long h hd, h' => by
    cases h' with
    | form h2 => exact absurd h h2
    | deep _ _ => omega
    | long _ _ => rfl
    | num _ hl => exact absurd rfl hl
    | body _ _ hl _ => exact absurd rfl hl
    | bodyE _ _ hl _ => exact absurd rfl hl
    | open_ _ hl _ => exact absurd rfl hl
    | openE _ hl _ => exact absurd rfl hl
    | need _ hl _ => exact absurd rfl hl
    | many _ hl _ _ => exact absurd rfl hl
    | manyE _ hl _ _ => exact absurd rfl hl
  | _, _, _, _, _, _, _, _, .num hd hl, h' => by
    cases h' with
    | form h2 => exact absurd mb0 h2
    | deep _ _ => omega
    | long _ _ => exact absurd rfl hl
    | num _ _ => rfl
    | body h2 _ _ _ => omega
    | bodyE h2 _ _ _ => omega
  | _, _, _, _, _, _, _, _, .body h hd hl hb, h' => by
    cases h' with
    | form h2 => exact absurd (mb23 h) h2
    | deep _ _ => omega
    | long _ _ => exact absurd rfl hl
    | num _ _ => omega
    | body h2 _ _ hb2 => have := body_det hb hb2; injection this with e1 e2 e3; rw [e1, e2, e3]
    | bodyE h2 _ _ hb2 => have := body_det hb hb2; cases this
    | _ => omega
  | _, _, _, _, _, _, _, _, .bodyE h hd hl hb, h' => by
    cases h' with
    | form h2 => exact absurd (mb23 h) h2
    | deep _ _ => omega
    | long _ _ => exact absurd rfl hl
    | num _ _ => omega
    | body h2 _ _ hb2 => have := body_det hb hb2; cases this
    | bodyE h2 _ _ hb2 => have := body_det hb hb2; injection this with e1; rw [e1]
    | _ => omega
  | _, _, _, _, _, _, _, _, .open_ hd hl hb, h' => by
    cases h' with
    | form h2 => exact absurd mb4 h2
    | deep _ _ => omega
    | long _ _ => exact absurd rfl hl
    | body h2 _ _ _ => omega
    | bodyE h2 _ _ _ => omega
    | open_ _ _ hb2 => have := open_det hb hb2; injection this with e1 e2 e3; rw [e1, e2, e3]
    | openE _ _ hb2 => have := open_det hb hb2; cases this
  | _, _, _, _, _, _, _, _, .openE hd hl hb, h' => by
    cases h' with
    | form h2 => exact absurd mb4 h2
    | deep _ _ => omega
    | long _ _ => exact absurd rfl hl
    | body h2 _ _ _ => omega
    | bodyE h2 _ _ _ => omega
    | open_ _ _ hb2 => have := open_det hb hb2; cases this
    | openE _ _ hb2 => have := open_det hb hb2; injection this with e1; rw [e1]
  | _, _, _, _, _, _, _, _, .need hd hl hn, h' => by
    cases h' with
    | form h2 => exact absurd mb4 h2
    | deep _ _ => omega
    | long _ _ => exact absurd rfl hl
    | body h2 _ _ _ => omega
    | bodyE h2 _ _ _ => omega
    | need _ _ _ => rfl
    | many _ _ hn2 _ => exact absurd hn hn2
    | manyE _ _ hn2 _ => exact absurd hn hn2
  | _, _, _, _, _, _, _, _, .many hd hl hn hb, h' => by
    cases h' with
    | form h2 => exact absurd mb4 h2
    | deep _ _ => omega
    | long _ _ => exact absurd rfl hl
    | body h2 _ _ _ => omega
    | bodyE h2 _ _ _ => omega
    | need _ _ hn2 => exact absurd hn2 hn
    | many _ _ _ hb2 => have := many_det hb hb2; injection this with e1 e2 e3; rw [e1, e2, e3]
    | manyE _ _ _ hb2 => have := many_det hb hb2; cases this
  | _, _, _, _, _, _, _, _, .manyE hd hl hn hb, h' => by
    cases h' with
    | form h2 => exact absurd mb4 h2
    | deep _ _ => omega
    | long _ _ => exact absurd rfl hl
    | body h2 _ _ _ => omega
    | bodyE h2 _ _ _ => omega
    | need _ _ hn2 => exact absurd hn2 hn
    | many _ _ _ hb2 => have := many_det hb hb2; cases this
    | manyE _ _ _ hb2 => have := many_det hb hb2; injection this with e1; rw [e1]
theorem many_det {xs : List Int} : ∀ {d k : Nat} {acc : List Itm} {p left : Int} {r r' : Res (List Itm)}, ManyR xs d k acc p left r → ManyR xs d k acc p left r' → r = r'
  | _, _, _, _, _, _, _, .done, h' => by cases h'; rfl
  | _, _, _, _, _, _, _, .bad h he, h' => by
    cases h' with
    | bad h2 _ => obtain ⟨_, _, _, _, rfl⟩ := hd_inj h h2; rfl
    | cut h2 _ => exact absurd (hd_inj h h2).2.2.2.2 (by omega)
    | more h2 _ _ => exact absurd (hd_inj h h2).2.2.2.2 (by omega)
  | _, _, _, _, _, _, _, .cut h hi, h' => by
    cases h' with
    | bad h2 _ => exact absurd (hd_inj h h2).2.2.2.2 (by omega)
    | cut h2 hi2 => obtain ⟨rfl, rfl, rfl, rfl, _⟩ := hd_inj h h2; have := item_det hi hi2; injection this with e1; rw [e1]
    | more h2 hi2 _ => obtain ⟨rfl, rfl, rfl, rfl, _⟩ := hd_inj h h2; have := item_det hi hi2; cases this
  | _, _, _, _, _, _, _, .more h hi hr, h' => by
    cases h' with
    | bad h2 _ => exact absurd (hd_inj h h2).2.2.2.2 (by omega)
    | cut h2 hi2 => obtain ⟨rfl, rfl, rfl, rfl, _⟩ := hd_inj h h2; have := item_det hi hi2; cases this
    | more h2 hi2 hr2 => obtain ⟨rfl, rfl, rfl, rfl, _⟩ := hd_inj h h2; have := item_det hi hi2; injection this with e1 e2 e3; subst e1 e2 e3; exact many_det hr hr2
theorem open_det {xs : List Int} : ∀ {d : Nat} {acc : List Itm} {p left : Int} {r r' : Res (List Itm)}, OpenR xs d acc p left r → OpenR xs d acc p left r' → r = r'
  | _, _, _, _, _, _, .bad h he, h' => by
    cases h' with
    | bad h2 _ => obtain ⟨_, _, _, _, rfl⟩ := hd_inj h h2; rfl
    | stop h2 _ => exact absurd (hd_inj h h2).2.2.2.2 (by omega)
    | cut h2 _ _ => exact absurd (hd_inj h h2).2.2.2.2 (by omega)
    | more h2 _ _ _ => exact absurd (hd_inj h h2).2.2.2.2 (by omega)
  | _, _, _, _, _, _, .stop h he, h' => by
    cases h' with
    | bad h2 _ => exact absurd (hd_inj h h2).2.2.2.2 (by omega)
    | stop h2 _ => obtain ⟨_, _, _, rfl, _⟩ := hd_inj h h2; rfl
    | cut h2 he2 _ => obtain ⟨rfl, rfl, rfl, rfl, _⟩ := hd_inj h h2; rw [he] at he2; cases he2
    | more h2 he2 _ _ => obtain ⟨rfl, rfl, rfl, rfl, _⟩ := hd_inj h h2; rw [he] at he2; cases he2
  | _, _, _, _, _, _, .cut h he hi, h' => by
    cases h' with
    | bad h2 _ => exact absurd (hd_inj h h2).2.2.2.2 (by omega)
    | stop h2 he2 => obtain ⟨rfl, rfl, rfl, rfl, _⟩ := hd_inj h h2; rw [he] at he2; cases he2
    | cut h2 _ hi2 => obtain ⟨rfl, rfl, rfl, rfl, _⟩ := hd_inj h h2; have := item_det hi hi2; injection this with e1; rw [e1]
    | more h2 _ hi2 _ => obtain ⟨rfl, rfl, rfl, rfl, _⟩ := hd_inj h h2; have := item_det hi hi2; cases this
  | _, _, _, _, _, _, .more h he hi hr, h' => by
    cases h' with
    | bad h2 _ => exact absurd (hd_inj h h2).2.2.2.2 (by omega)
    | stop h2 he2 => obtain ⟨rfl, rfl, rfl, rfl, _⟩ := hd_inj h h2; rw [he] at he2; cases he2
    | cut h2 _ hi2 => obtain ⟨rfl, rfl, rfl, rfl, _⟩ := hd_inj h h2; have := item_det hi hi2; cases this
    | more h2 _ hi2 hr2 => obtain ⟨rfl, rfl, rfl, rfl, _⟩ := hd_inj h h2; have := item_det hi hi2; injection this with e1 e2 e3; subst e1 e2 e3; exact open_det hr hr2
end
theorem read_det {xs : List Int} {p : Int} {r r' : Res Itm} (h : ReadR xs p r) (h' : ReadR xs p r') : r = r' := by
  cases h with
  | bad h he =>
    cases h' with
    | bad h2 _ => obtain ⟨_, _, _, _, rfl⟩ := hd_inj h h2; rfl
    | item h2 _ => exact absurd (hd_inj h h2).2.2.2.2 (by omega)
  | item h hi =>
    cases h' with
    | bad h2 _ => exact absurd (hd_inj h h2).2.2.2.2 (by omega)
    | item h2 hi2 => obtain ⟨rfl, rfl, rfl, rfl, _⟩ := hd_inj h h2; exact item_det hi hi2
end Go.Proofs.YtoieadbifhealaaDoor.Cb
