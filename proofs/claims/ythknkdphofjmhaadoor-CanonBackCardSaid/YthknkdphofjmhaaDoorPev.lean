/- A plain region whose values are known ahead or are truths, reckoned by one closed fact. No program is named here. -/
import Derived.Test.YthknkdphofjmhaaDoorZg1
import Derived.Laws.Small
import Derived.Deep.RegionHeld
namespace Go.Proofs.YthknkdphofjmhaaDoor.Pev
open Go.RowKit

/-- What is known of a slot that the region wrote: the table's value; a truth; nothing was written. -/
inductive St where
  | g
  | b (x : Bool)
  | u
/-- The first entry of a key. -/
def look {α : Type} : List (Nat × α) → Nat → Option α
  | [], _ => none
  | x :: t, k => match Nat.beq x.1 k with
    | true => some x.2
    | false => look t k
abbrev Env := List (Nat × St)
abbrev Tab := List (Nat × Value)
/-- The truth that a value is. -/
def tru : Option Value → Option Bool
  | some (.bool x) => some x
  | _ => none
/-- The truth that an operand is. -/
def bo (a0 : Act) (G : Tab) (env : Env) : Operand → Option Bool
  | .const v => tru (some v)
  | .tmp t => match look env t with
    | some (.b x) => some x
    | some .g => tru (look G t)
    | some .u => none
    | none => tru a0.tmps[t]?
  | _ => none
/-- What a guard sees: nothing known; no truth; a truth. -/
def yl (a0 : Act) (full : List Oper) (G : Tab) (env : Env) (j : Nat) : Option (Option Bool) :=
  match full[j]? with
  | none => none
  | some o => match o.dst with
    | none => none
    | some d => match look env d with
      | some (.b x) => some (some x)
      | some .u => some none
      | some .g => match tru (look G d) with
        | some x => some (some x)
        | none => none
      | none => match tru a0.tmps[d]? with
        | some x => some (some x)
        | none => none
/-- The value that an operand has when the table holds it. -/
def vG (a0 : Act) (G : Tab) (t : Nat) : Option Value :=
  match look G t with
  | some v => some v
  | none => a0.tmps[t]?
/-- Does this slot hold what the table says? -/
def okG (G : Tab) (env : Env) (t : Nat) : Bool :=
  match look G t with
  | some _ => match look env t with
    | some .g => true
    | _ => false
  | none => match look env t with
    | none => true
    | _ => false
def slots : List Operand → List Nat
  | [] => []
  | .tmp t :: r => t :: slots r
  | _ :: r => slots r
/-- The slots that an operation reads. -/
def reads : Op → Option (List Nat)
  | .move x => some (slots [x])
  | .assign x => some (slots [x])
  | .binOp _ _ x y _ => some (slots [x, y])
  | .load _ x => some (slots [x])
  | .convert _ _ x => some (slots [x])
  | .unOp _ _ x => some (slots [x])
  | .fieldAddr _ x _ => some (slots [x])
  | .call c => match c.callee with
    | .builtin _ => some (slots c.args.toList)
    | _ => none
  | _ => none
def allOk (G : Tab) (env : Env) : List Nat → Bool
  | [] => true
  | t :: r => match okG G env t with
    | true => allOk G env r
    | false => false
/-- An operation whose value the table holds. -/
def orc (G : Tab) (env : Env) (ks : List Nat) (k : Nat) (o : Oper) : Option St :=
  match reads o.op with
  | none => none
  | some l => match allOk G env l with
    | false => none
    | true => match look (ks.map fun j => (j, ())) k with
      | some _ => some .g
      | none => none
def both (r : Bool → Bool → Bool) : Option Bool → Option Bool → Option Bool
  | some p, some q => some (r p q)
  | _, _ => none
def sb : Option Bool → Option St
  | some x => some (.b x)
  | none => none
/-- What an operation yields. -/
def res (BT : TypeId) (a0 : Act) (G : Tab) (ks : List Nat) (env : Env) (k : Nat) (o : Oper) : Option St :=
  match o.op with
  | .move x => match bo a0 G env x with
    | some p => some (.b p)
    | none => orc G env ks k o
  | .assign x => match bo a0 G env x with
    | some p => some (.b p)
    | none => orc G env ks k o
  | .pick c x y => match bo a0 G env c with
    | some true => sb (bo a0 G env x)
    | some false => sb (bo a0 G env y)
    | none => none
  | .unOp .not t x => match bo a0 G env x with
    | some p => some (.b (!p))
    | none => none
  | .binOp .eql t x y _ => match Nat.beq t BT with
    | true => sb (both (fun p q => p == q) (bo a0 G env x) (bo a0 G env y))
    | false => orc G env ks k o
  | .binOp .neq t x y _ => match Nat.beq t BT with
    | true => sb (both (fun p q => !(p == q)) (bo a0 G env x) (bo a0 G env y))
    | false => orc G env ks k o
  | _ => orc G env ks k o
/-- Whether an operation is wanted. -/
def want (a0 : Act) (full : List Oper) (G : Tab) (env : Env) (o : Oper) : Option Bool :=
  match o.guard with
  | none => some true
  | some (j, q) => match yl a0 full G env j with
    | none => none
    | some r => some (r == some q)
/-- The region, reckoned. -/
def go (BT : TypeId) (a0 : Act) (full : List Oper) (G : Tab) (ks : List Nat) (N : Nat) : List Oper → Nat → Env → Option Env
  | [], _, env => some env
  | o :: rest, k, env => match o.dst with
    | none => none
    | some d => match Nat.blt d N with
      | false => none
      | true => match want a0 full G env o with
        | none => none
        | some false => go BT a0 full G ks N rest (k + 1) ((d, .u) :: env)
        | some true => match res BT a0 G ks env k o with
          | none => none
          | some s => go BT a0 full G ks N rest (k + 1) ((d, s) :: env)
/-- What the table promises of the operation at a place. -/
def Obl (P : Program) (w : World) (a0 : Act) (full : List Oper) (G : Tab) (k : Nat) : Prop :=
  ∀ o d l, full[k]? = some o → o.dst = some d → reads o.op = some l → ∀ a : Act, (∀ t ∈ l, a.tmps[t]? = vG a0 G t) → ∃ v, look G d = some v ∧ (execOp a.eval o).run P w = .ok (.value v) w

section
variable {P : Program} {w : World} {a0 a : Act} {full : List Oper} {G : Tab} {ks : List Nat} {N : Nat} {env : Env} {BT : TypeId} {Q : Exit → Act → World → Prop}
/-- The state agrees. -/
def Agr (a0 : Act) (G : Tab) (env : Env) (a : Act) : Prop :=
  ∀ t, match look env t with
    | some .g => ∃ v, look G t = some v ∧ a.tmps[t]? = some v
    | some (.b x) => a.tmps[t]? = some (.bool x)
    | some .u => a.tmps[t]? = some undef
    | none => a.tmps[t]? = a0.tmps[t]?
theorem tru_some {v : Option Value} {x : Bool} (h : tru v = some x) : v = some (.bool x) := by
  unfold tru at h
  split at h
  · injection h with h
    subst h
    rfl
  · cases h
theorem eval_of {t : Nat} {v : Value} (h : a.tmps[t]? = some v) : a.eval (.tmp t) = v := by
  simp [Act.eval, Array.getD_eq_getD_getElem?, h]
theorem bo_ok (hag : Agr a0 G env a) {x : Operand} {p : Bool} (h : bo a0 G env x = some p) : a.eval x = .bool p := by
  unfold bo at h
  split at h
  · have := tru_some h
    injection this
  · rename_i t
    have k := hag t
    refine eval_of ?_
    split at h
    · rename_i e
      rw [e] at k
      injection h with h
      subst h
      exact k
    · rename_i e
      rw [e] at k
      obtain ⟨v, k1, k2⟩ := k
      rw [k1] at h
      rw [k2]
      exact tru_some h
    · cases h
    · rename_i e
      rw [e] at k
      exact k.trans (tru_some h)
  · cases h
theorem yl_ok (hag : Agr a0 G env a) {j : Nat} {r : Option Bool} (h : yl a0 full G env j = some r) : yielded full.toArray a.tmps j = r := by
  unfold yl at h
  unfold yielded
  split at h
  · cases h
  · rename_i o ho
    split at h
    · cases h
    · rename_i d hd
      have k := hag d
      have e1 : ((full.toArray[j]?).bind (·.dst)) = some d := by simp [ho, hd]
      rw [e1]
      split at h
      · rename_i e
        rw [e] at k
        injection h with h
        subst h
        simp [k]
      · rename_i e
        rw [e] at k
        injection h with h
        subst h
        simp [k, undef]
      · rename_i e
        rw [e] at k
        obtain ⟨v, k1, k2⟩ := k
        split at h
        · rename_i x hx
          rw [k1] at hx
          have := tru_some hx
          injection this with this
          subst this
          injection h with h
          subst h
          simp [k2]
        · cases h
      · rename_i e
        rw [e] at k
        split at h
        · rename_i x hx
          injection h with h
          subst h
          rw [tru_some hx] at k
          simp [k]
        · cases h
theorem want_ok (hag : Agr a0 G env a) {o : Oper} {r : Bool} (h : want a0 full G env o = some r) : Region.wanted o (yielded full.toArray a.tmps) = r := by
  unfold want at h
  unfold Region.wanted
  split at h
  · rename_i e
    rw [e]
    injection h
  · rename_i j q e
    rw [e]
    split at h
    · cases h
    · rename_i r' hr
      injection h with h
      show (yielded full.toArray a.tmps j == some q) = r
      rw [← h, yl_ok hag hr]
/-- What a written slot holds. -/
def Has (G : Tab) (d : Nat) (v : Value) : St → Prop
  | .g => look G d = some v
  | .b x => v = .bool x
  | .u => v = undef
theorem look_same {α : Type} (d : Nat) (s : α) (l : List (Nat × α)) : look ((d, s) :: l) d = some s := by
  have hb : Nat.beq d d = true := Nat.beq_refl d
  show (match Nat.beq d d with | true => some s | false => look l d) = some s
  rw [hb]
theorem look_other {α : Type} {d t : Nat} (h : d ≠ t) (s : α) (l : List (Nat × α)) : look ((d, s) :: l) t = look l t := by
  have hb : Nat.beq d t = false := by
    cases hh : Nat.beq d t
    · rfl
    · exact absurd (Nat.eq_of_beq_eq_true hh) h
  show (match Nat.beq d t with | true => some s | false => look l t) = look l t
  rw [hb]
theorem agr_put (hag : Agr a0 G env a) {d : Nat} (hd : d < a.tmps.size) {v : Value} {s : St} (hv : Has G d v s) : Agr a0 G ((d, s) :: env) (a.put (some d) v) := by
  intro t
  have k := hag t
  have e : (a.put (some d) v).tmps[t]? = if d = t then some v else a.tmps[t]? := by
    simp only [Act.put, Array.getElem?_setIfInBounds]
    by_cases h : d = t
    · subst h
      simp [hd]
    · simp [h]
  by_cases h : d = t
  · subst h
    rw [look_same, e, if_pos rfl]
    cases s
    · exact ⟨v, hv, rfl⟩
    · exact congrArg some hv
    · exact congrArg some hv
  · rw [look_other h, e, if_neg h]
    exact k
theorem allOk_ok (hag : Agr a0 G env a) {l : List Nat} (h : allOk G env l = true) : ∀ t ∈ l, a.tmps[t]? = vG a0 G t := by
  induction l with
  | nil => intro t ht; cases ht
  | cons x r ih =>
    unfold allOk at h
    split at h
    · rename_i hx
      intro t ht
      rcases List.mem_cons.1 ht with rfl | ht
      · have k := hag t
        unfold okG at hx
        unfold vG
        split at hx
        · rename_i v hv
          split at hx
          · rename_i e
            rw [e] at k
            obtain ⟨v', k1, k2⟩ := k
            rw [k2, ← k1, hv]
          · cases hx
        · rename_i hv
          split at hx
          · rename_i e
            rw [e] at k
            exact k
          · cases hx
      · exact ih h t ht
    · cases h
theorem look_mem {ks : List Nat} {k : Nat} {u : Unit} (h : look (ks.map fun j => (j, ())) k = some u) : k ∈ ks := by
  induction ks with
  | nil => cases h
  | cons x r ih =>
    rw [List.map_cons] at h
    unfold look at h
    split at h
    · rename_i e
      rw [← Nat.eq_of_beq_eq_true e]
      exact List.mem_cons_self
    · exact List.mem_cons_of_mem _ (ih h)
theorem orc_ok (hob : ∀ k ∈ ks, Obl P w a0 full G k) (hag : Agr a0 G env a) {k d : Nat} {o : Oper} (ho : full[k]? = some o) (hd : o.dst = some d) {s : St} (h : orc G env ks k o = some s) :
    s = .g ∧ ∃ v, look G d = some v ∧ (execOp a.eval o).run P w = .ok (.value v) w := by
  unfold orc at h
  split at h
  · cases h
  · rename_i l hl
    split at h
    · cases h
    · rename_i ha
      split at h
      · rename_i hk
        injection h with h
        exact ⟨h.symm, hob k (look_mem hk) o d l ho hd hl a (allOk_ok hag ha)⟩
      · cases h
theorem sb_some {p : Option Bool} {s : St} (h : sb p = some s) : ∃ x, p = some x ∧ s = .b x := by
  cases p
  · cases h
  · injection h with h
    exact ⟨_, rfl, h.symm⟩
theorem both_some {r : Bool → Bool → Bool} {p q : Option Bool} {x : Bool} (h : both r p q = some x) : ∃ y z, p = some y ∧ q = some z ∧ x = r y z := by
  cases p <;> cases q <;> simp_all [both]
theorem res_ok (hBT : P.underlying BT = some .bool) (hob : ∀ k ∈ ks, Obl P w a0 full G k) (hag : Agr a0 G env a) {k d : Nat} {o : Oper} (ho : full[k]? = some o) (hd : o.dst = some d) {s : St} (h : res BT a0 G ks env k o = some s) :
    ∃ v, (execOp a.eval o).run P w = .ok (.value v) w ∧ Has G d v s := by
  have orcs : orc G env ks k o = some s → ∃ v, (execOp a.eval o).run P w = .ok (.value v) w ∧ Has G d v s := fun h => by
    obtain ⟨rfl, v, h1, h2⟩ := orc_ok hob hag ho hd h
    exact ⟨v, h2, h1⟩
  unfold res at h
  split at h
  · rename_i x e
    split at h
    · rename_i p h1
      injection h with h
      subst h
      refine ⟨.bool p, ?_, rfl⟩
      simp only [execOp, e, bo_ok hag h1]
      rfl
    · exact orcs h
  · rename_i x e
    split at h
    · rename_i p h1
      injection h with h
      subst h
      refine ⟨.bool p, ?_, rfl⟩
      simp only [execOp, e, bo_ok hag h1]
      rfl
    · exact orcs h
  · rename_i c x y e
    split at h
    · rename_i hc
      obtain ⟨p, h1, rfl⟩ := sb_some h
      refine ⟨.bool p, ?_, rfl⟩
      simp only [execOp, e, bo_ok hag h1, bo_ok hag hc]
      rfl
    · rename_i hc
      obtain ⟨p, h1, rfl⟩ := sb_some h
      refine ⟨.bool p, ?_, rfl⟩
      simp only [execOp, e, bo_ok hag h1, bo_ok hag hc]
      rfl
    · cases h
  · rename_i t x e
    split at h
    · rename_i p hp
      injection h with h
      subst h
      refine ⟨.bool (!p), ?_, rfl⟩
      simp only [execOp, e, bo_ok hag hp]
      rfl
    · cases h
  · rename_i t x y ty e
    split at h
    · rename_i ht
      obtain ⟨r, h1, rfl⟩ := sb_some h
      obtain ⟨p, q, h2, h3, rfl⟩ := both_some h1
      have ht := Nat.eq_of_beq_eq_true ht
      subst ht
      refine ⟨.bool (p == q), ?_, rfl⟩
      simp only [execOp, e, bo_ok hag h2, bo_ok hag h3]
      simp [run_eql_bool _ _ _ _ hBT, eqGuard, go_sem]
    · exact orcs h
  · rename_i t x y ty e
    split at h
    · rename_i ht
      obtain ⟨r, h1, rfl⟩ := sb_some h
      obtain ⟨p, q, h2, h3, rfl⟩ := both_some h1
      have ht := Nat.eq_of_beq_eq_true ht
      subst ht
      refine ⟨.bool (!(p == q)), ?_, rfl⟩
      simp only [execOp, e, bo_ok hag h2, bo_ok hag h3]
      simp [run_neq_bool _ _ _ _ hBT, eqGuard, go_sem]
    · exact orcs h
  · exact orcs h
theorem size_put {d : Option Tmp} {v : Value} : (a.put d v).tmps.size = a.tmps.size := by cases d <;> simp [Act.put]
theorem defers_put {d : Option Tmp} {v : Value} : (a.put d v).defers = a.defers := by cases d <;> simp [Act.put]
theorem go_ok (hBT : P.underlying BT = some .bool) (hob : ∀ k ∈ ks, Obl P w a0 full G k) {env' : Env} (l : List Oper) : ∀ (k : Nat) (env : Env) (a : Act), (∀ i, l[i]? = full[k + i]?) → go BT a0 full G ks N l k env = some env' → a.tmps.size = N → Agr a0 G env a →
    (∀ a' : Act, a'.tmps.size = N → a'.defers = a.defers → Agr a0 G env' a' → Q .normal a' w) → wpList P full.toArray Q l a w := by
  induction l with
  | nil =>
    intro k env a _ h hN hag hQ
    injection h with h
    subst h
    exact hQ a hN rfl hag
  | cons o r ih =>
    intro k env a hl h hN hag hQ
    have ho : full[k]? = some o := by simpa using (hl 0).symm
    have hr : ∀ i, r[i]? = full[k + 1 + i]? := fun i => by simpa [Nat.add_assoc, Nat.add_comm 1 i] using hl (i + 1)
    unfold go at h
    split at h
    · cases h
    · rename_i d hd
      split at h
      · cases h
      · rename_i hlt
        have hlt : d < a.tmps.size := by
          rw [hN]
          simpa [Nat.blt, Nat.succ_le_iff] using hlt
        split at h
        · cases h
        · rename_i hw
          have hw := want_ok hag hw
          refine wpList_skip hw ?_
          rw [hd]
          refine ih (k + 1) _ _ hr h (size_put.trans hN) (agr_put hag hlt (s := .u) rfl) (fun a' h1 h2 h3 => hQ a' h1 (h2.trans defers_put) h3)
        · rename_i hw
          have hw := want_ok hag hw
          split at h
          · cases h
          · rename_i s hs
            obtain ⟨v, hrun, hv⟩ := res_ok hBT hob hag ho hd hs
            refine wpList_step fun K hK => ?_
            rw [if_pos hw]
            unfold Oper.wp
            rw [hrun, Oper.upon_value, hd]
            exact hK _ _ (ih (k + 1) _ _ hr h (size_put.trans hN) (agr_put hag hlt hv) (fun a' h1 h2 h3 => hQ a' h1 (h2.trans defers_put) h3))
/-- A truth that the reckoning ends with. -/
def ends (e : Option Env) (t : Nat) : Option Bool :=
  match e with
  | none => none
  | some env => match look env t with
    | some (.b x) => some x
    | _ => none
/-- A plain region: where the reckoning ends with a truth in a slot, the region ends so, in the same world. -/
theorem region {id : Nat} (BT : TypeId) (hBT : P.underlying BT = some .bool) (G : Tab) (ks : List Nat) (N t : Nat) (x : Bool) (hob : ∀ k ∈ ks, Obl P w a full G k) (hN : a.tmps.size = N)
    (h : ends (go BT a full G ks N full 0 []) t = some x)
    (hQ : ∀ a' : Act, a'.tmps.size = N → a'.defers = a.defers → a'.tmps[t]? = some (.bool x) → Q .normal a' w) : (Code.region id full.toArray false).wp P Q a w := by
  unfold ends at h
  split at h
  · cases h
  · rename_i env he
    refine wp_region_lit (go_ok hBT hob full 0 [] a (fun i => by simp) he hN (fun t => rfl) fun a' h1 h2 h3 => hQ a' h1 h2 ?_)
    have k := h3 t
    split at h
    · rename_i y e
      injection h with h
      subst h
      rw [e] at k
      exact k
    · cases h
/-- The same behind the region's first operation. -/
theorem rest1 {o : Oper} {l : List Oper} (BT : TypeId) (hBT : P.underlying BT = some .bool) (G : Tab) (ks : List Nat) (N t : Nat) (x : Bool) (hob : ∀ k ∈ ks, Obl P w a (o :: l) G k) (hN : a.tmps.size = N)
    (h : ends (go BT a (o :: l) G ks N l 1 []) t = some x)
    (hQ : ∀ a' : Act, a'.tmps.size = N → a'.defers = a.defers → a'.tmps[t]? = some (.bool x) → Q .normal a' w) : wpList P (o :: l).toArray Q l a w := by
  unfold ends at h
  split at h
  · cases h
  · rename_i env he
    refine go_ok hBT hob l 1 [] a (fun i => by rw [Nat.add_comm]; simp) he hN (fun t => rfl) fun a' h1 h2 h3 => hQ a' h1 h2 ?_
    have k := h3 t
    split at h
    · rename_i y e
      injection h with h
      subst h
      rw [e] at k
      exact k
    · cases h
/-- A comparison of two numbers. -/
def cmpI : BinOp → Int → Int → Option Bool
  | .eql, i, j => some (i == j)
  | .neq, i, j => some (i != j)
  | .lss, i, j => some (decide (i < j))
  | .leq, i, j => some (decide (i ≤ j))
  | .gtr, i, j => some (decide (i > j))
  | .geq, i, j => some (decide (i ≥ j))
  | _, _, _ => none
def vO (a0 : Act) (G : Tab) : Operand → Option Value
  | .const v => some v
  | .tmp t => vG a0 G t
  | _ => none
theorem slots_mem {t : Nat} : ∀ {l : List Operand}, Operand.tmp t ∈ l → t ∈ slots l
  | y :: r, h => by
    rcases List.mem_cons.1 h with e | e
    · subst e
      exact List.mem_cons_self
    · have k := slots_mem e
      cases y
      · exact List.mem_cons_of_mem _ k
      all_goals exact k
theorem vO_eval {x : Operand} {v : Value} {l : List Operand} (hx : x ∈ l) (h : vO a0 G x = some v) (ha : ∀ t ∈ slots l, a.tmps[t]? = vG a0 G t) : a.eval x = v := by
  unfold vO at h
  split at h
  · injection h
  · rename_i t
    exact eval_of ((ha t (slots_mem hx)).trans h)
  · cases h
/-- The table holds a comparison of two numbers. -/
theorem ob_cmp {k : Nat} (d : Nat) (op : BinOp) (t : TypeId) (x y : Operand) (ty : TypeId) (kd : IntKind) (i j : Int) (B : Bool) (h : (full[k]?.map fun o => (o.dst, o.op)) = some (some d, .binOp op t x y ty))
    (h4 : vO a G x = some (.int kd i)) (h5 : vO a G y = some (.int kd j)) (h6 : look G d = some (.bool B)) (h7 : cmpI op i j = some B) : Obl P w a full G k := by
  intro o d' l e1 e2 e3 a' ha
  rw [e1, Option.map_some] at h
  injection h with h
  injection h with h2 h3
  rw [h2] at e2
  injection e2 with e2
  subst e2
  rw [h3] at e3
  injection e3 with e3
  subst e3
  refine ⟨_, h6, ?_⟩
  have x1 := vO_eval (l := [x, y]) (List.mem_cons_self) h4 ha
  have y1 := vO_eval (l := [x, y]) (List.mem_cons_of_mem _ List.mem_cons_self) h5 ha
  unfold cmpI at h7
  split at h7
  all_goals first
    | (cases h7; done)
    | (injection h7 with h7
       subst h7
       simp only [execOp, h3, x1, y1]
       simp [eqGuard, binOp, Op.intCmp, go_sem])
/-- The table holds what is moved. -/
theorem ob_move {k : Nat} (d : Nat) (x : Operand) (v : Value) (h : (full[k]?.map fun o => (o.dst, o.op)) = some (some d, .move x)) (h4 : vO a G x = some v) (h6 : look G d = some v) : Obl P w a full G k := by
  intro o d' l e1 e2 e3 a' ha
  rw [e1, Option.map_some] at h
  injection h with h
  injection h with h2 h3
  rw [h2] at e2
  injection e2 with e2
  subst e2
  rw [h3] at e3
  injection e3 with e3
  subst e3
  refine ⟨_, h6, ?_⟩
  have x1 := vO_eval (l := [x]) (List.mem_cons_self) h4 ha
  simp only [execOp, h3, x1]
  rfl
/-- The table holds what is loaded. -/
theorem ob_load {k : Nat} (d : Nat) (t : TypeId) (x : Operand) (v v' : Value) (h : (full[k]?.map fun o => (o.dst, o.op)) = some (some d, .load t x)) (h4 : vO a G x = some v) (h6 : look G d = some v') (h7 : (Instr.loadAt t v).run P w = .ok v' w) : Obl P w a full G k := by
  intro o d' l e1 e2 e3 a' ha
  rw [e1, Option.map_some] at h
  injection h with h
  injection h with h2 h3
  rw [h2] at e2
  injection e2 with e2
  subst e2
  rw [h3] at e3
  injection e3 with e3
  subst e3
  refine ⟨_, h6, ?_⟩
  have x1 := vO_eval (l := [x]) (List.mem_cons_self) h4 ha
  simp only [execOp, h3, x1, Sem.run_bind, h7]
  rfl
/-- The table holds a plain operation's value on two operands. -/
theorem ob_bin {k : Nat} (d : Nat) (op : BinOp) (t : TypeId) (x y : Operand) (ty : TypeId) (u v r : Value) (h : (full[k]?.map fun o => (o.dst, o.op)) = some (some d, .binOp op t x y ty))
    (h4 : vO a G x = some u) (h5 : vO a G y = some v) (h6 : look G d = some r) (h7 : (eqGuard op t x y u v).run P w = .ok () w) (h8 : (binOp op t u v).run P w = .ok r w) : Obl P w a full G k := by
  intro o d' l e1 e2 e3 a' ha
  rw [e1, Option.map_some] at h
  injection h with h
  injection h with h2 h3
  rw [h2] at e2
  injection e2 with e2
  subst e2
  rw [h3] at e3
  injection e3 with e3
  subst e3
  refine ⟨_, h6, ?_⟩
  have x1 := vO_eval (l := [x, y]) (List.mem_cons_self) h4 ha
  have y1 := vO_eval (l := [x, y]) (List.mem_cons_of_mem _ List.mem_cons_self) h5 ha
  simp only [execOp, h3, x1, y1]
  simp [h7, h8, go_sem]
end
end Go.Proofs.YthknkdphofjmhaaDoor.Pev
namespace Go.Proofs.YthknkdphofjmhaaDoor.Pev
open Go.RowKit
/-- A drawn region under way may go on under a stronger condition on worlds: the world at hand alone, where all that is left only reads. -/
theorem anyH_mono {P : Program} {ops : Array Oper} {Q : Exit → Act → World → Prop} {md : Region.Mode} {S S' : World → Prop} (hS : ∀ w, S' w → S w) : ∀ (fuel : Nat) (listed : Array Bool) (a : Act) (w : World), wpAnyH P md ops Q S' fuel listed a w → wpAnyH P md ops Q S fuel listed a w
  | 0, _, _, _, h => h
  | fuel + 1, _, _, _, h => ⟨h.1, fun i hi => wpOp_mono (fun a' w' h' => ⟨hS _ h'.1, anyH_mono hS fuel _ a' w' h'.2⟩) (h.2 i hi)⟩
theorem anyH_here {P : Program} {ops : Array Oper} {Q : Exit → Act → World → Prop} {md : Region.Mode} {S : World → Prop} {fuel : Nat} {listed : Array Bool} {a : Act} {w : World} (hS : S w) (h : w = w → wpAnyH P md ops Q (fun w' => w' = w) fuel listed a w) : wpAnyH P md ops Q S fuel listed a w :=
  anyH_mono (S' := fun w' => w' = w) (fun _ e => by subst e; exact hS) _ _ _ _ (h rfl)
end Go.Proofs.YthknkdphofjmhaaDoor.Pev
