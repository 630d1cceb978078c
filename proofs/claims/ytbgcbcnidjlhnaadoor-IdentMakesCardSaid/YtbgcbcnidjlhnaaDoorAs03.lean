/- The contract of law03's As: an item as the document's: the same item; what it shares lies where it lay. -/
import Derived.Test.YtbgcbcnidjlhnaaDoorCbSame
import Derived.WalkLawsBesides
import Derived.Deep.CutBlock
import Derived.Deep.RegionHeld3
import Derived.Deep.AppendLies
namespace Go.Proofs.YtbgcbcnidjlhnaaDoor.As03
open Go.RowKit Wd Cb CbCopy CbRight CbSame
attribute [local go_sem ↓] Go.wp_at_zero Go.wp_at_succ

theorem blk_grown {w w' : World} {g : Nat} {t : TypeId} {cs : Array Value} {row : Option Nat} (h : Blk w g t cs) (hb : w.grownBy w' row) (hg : row ≠ some g) : Blk w' g t cs := (hb.block g h.lt (Ne.symm hg)).trans h
theorem only_set3 {a w : World} {g : Nat} (h : a.grownBy w (some g)) (x y z : Value) : a.grownBy (((w.setCell ⟨g, 0, none⟩ x).setCell ⟨g, 1, none⟩ y).setCell ⟨g, 2, none⟩ z) (some g) :=
  only_set (p := ⟨g, 2, none⟩) (only_set (p := ⟨g, 1, none⟩) (only_set (p := ⟨g, 0, none⟩) h rfl x) rfl y) rfl z
theorem only_set4 {a w : World} {g : Nat} (h : a.grownBy w (some g)) (x y z u : Value) : a.grownBy ((((w.setCell ⟨g, 0, none⟩ x).setCell ⟨g, 1, none⟩ y).setCell ⟨g, 2, none⟩ z).setCell ⟨g, 3, none⟩ u) (some g) :=
  only_set (p := ⟨g, 3, none⟩) (only_set3 h x y z) rfl u
theorem nilRow (w : World) (base : Nat) (e : TypeId) (s : Nat) : w.ownsRow base e s (.slice none 0 0) 0 [] := ⟨by simp, .inl ⟨rfl, rfl⟩⟩

theorem ItemV_four {w : World} {lo hi : Nat} {x : Itm} {v : Value} (h : ItemV w lo hi x v) : ∃ k n A b c A' b' c', v = .agg #[.int .i64 k, .int .u64 n, .slice A b c, .slice A' b' c'] := by
  obtain ⟨A, c, A', c', rfl, -⟩ := h.open_
  exact ⟨_, _, _, _, _, _, _, _, rfl⟩

/-- An item whose memory lies in these blocks alone. -/
def Fix (S : Nat → Prop) (w : World) (hi : Nat) (x : Itm) (v : Value) : Prop := ∀ W : World, (∀ p : Addr, S p.block → W.cell? p = w.cell? p) → ItemV W 0 hi x v
/-- Items in a row whose memory lies in these blocks alone. -/
def Fixs (S : Nat → Prop) (w : World) (hi : Nat) (l : List Itm) (vs : List Value) : Prop := ∀ W : World, (∀ p : Addr, S p.block → W.cell? p = w.cell? p) → Reps W 0 hi l vs
theorem Fix.self {S : Nat → Prop} {w : World} {hi : Nat} {x : Itm} {v : Value} (h : Fix S w hi x v) : ItemV w 0 hi x v := h w fun _ _ => rfl
theorem Fixs.none_ (S : Nat → Prop) (w : World) (hi : Nat) : Fixs S w hi [] [] := fun _ _ => Reps.none_
theorem Fixs.self {S : Nat → Prop} {w : World} {hi : Nat} {l : List Itm} {vs : List Value} (h : Fixs S w hi l vs) : Reps w 0 hi l vs := h w fun _ _ => rfl
theorem Fix.turn {S T : Nat → Prop} {w w' : World} {hi hi' : Nat} {x : Itm} {v : Value} (h : Fix S w hi x v) (hk : ∀ p : Addr, S p.block → w'.cell? p = w.cell? p) (hs : ∀ q, S q → T q) (hh : hi ≤ hi') : Fix T w' hi' x v :=
  fun W hW => (h W fun p hp => (hW p (hs _ hp)).trans (hk p hp)).more (Nat.le_refl _) hh
theorem Fixs.turn {S T : Nat → Prop} {w w' : World} {hi hi' : Nat} {l : List Itm} {vs : List Value} (h : Fixs S w hi l vs) (hk : ∀ p : Addr, S p.block → w'.cell? p = w.cell? p) (hs : ∀ q, S q → T q) (hh : hi ≤ hi') : Fixs T w' hi' l vs :=
  fun W hW => (h W fun p hp => (hW p (hs _ hp)).trans (hk p hp)).more (Nat.le_refl _) hh
theorem Fixs.snoc {S : Nat → Prop} {w : World} {hi : Nat} {l : List Itm} {vs cs : List Value} {x : Itm} (h : Fixs S w hi l vs) (hx : Fix S w hi x (.agg cs.toArray)) : Fixs S w hi (l ++ [x]) (vs ++ cs) := fun W hW => by
  obtain ⟨cs', e, hr⟩ := hx W hW
  have hc : cs = cs' := by
    injection e with e
    simpa using congrArg Array.toList e
  rw [hc]
  exact (h W hW).append (Reps.one hr)

/-- Where the parts of a list lie that is under way. -/
def Way (B L s : Nat) (r : Option Nat) (q : Nat) : Prop := q < B ∨ (L ≤ q ∧ q < s ∧ r ≠ some q)
/-- The row under way. -/
def Row (w : World) (B L : Nat) (l : List Itm) (vv : Value) : Prop := ∃ vs, w.ownsRow L 49 4 vv l.length vs ∧ Fixs (Way B L w.heap.size vv.ownBlock) w w.heap.size l vs
theorem Row.nil (w : World) (B L : Nat) : Row w B L [] (.slice none 0 0) := ⟨[], nilRow _ _ _ _, Fixs.none_ _ _ _⟩
theorem Row.kept {w w' : World} {B L : Nat} {l : List Itm} {vv : Value} (h : Row w B L l vv) (hb : Below w.heap.size w w') (hB : B ≤ w.heap.size) : Row w' B L l vv := by
  obtain ⟨vs, ho, hf⟩ := h
  refine ⟨vs, own_later ho hb, hf.turn (fun p hp => hb.cell ?_) (fun q hq => ?_) hb.size⟩
  · rcases hp with h | h
    · exact Nat.lt_of_lt_of_le h hB
    · exact h.2.1
  · rcases hq with h | ⟨h1, h2, h3⟩
    · exact .inl h
    · exact .inr ⟨h1, Nat.lt_of_lt_of_le h2 hb.size, h3⟩
theorem Row.snoc {w0 w w1 : World} {B L : Nat} {l : List Itm} {vv v1 : Value} {x : Itm} {cs : List Value} (h : Row w0 B L l vv) (hBL : B ≤ L) (hL : L ≤ w0.heap.size) (hb : Below w0.heap.size w0 w) (hx : Fix (fun q => q < B ∨ (w0.heap.size ≤ q ∧ q < w.heap.size)) w w.heap.size x (.agg cs.toArray))
    (vs : List Value) (hf : Fixs (Way B L w0.heap.size vv.ownBlock) w0 w0.heap.size l vs) (hr : ∀ r, vv.ownBlock = some r → L ≤ r ∧ r < w0.heap.size)
    (ho : w1.ownsRow L 49 4 v1 (l.length + 1) (vs ++ cs)) (hg : w.grownBy w1 vv.ownBlock) (hat : v1.ownBlock = vv.ownBlock ∨ v1.ownBlock = some w.heap.size) : Row w1 B L (l ++ [x]) v1 := by
  have hs0 := hb.size
  have hs1 := hg.size
  have hne : ∀ q : Nat, q < w.heap.size → vv.ownBlock ≠ some q → v1.ownBlock ≠ some q := fun q hq hn => by
    rcases hat with e | e
    · rw [e]; exact hn
    · rw [e]; intro e; injection e with e; omega
  refine ⟨vs ++ cs, by simpa using ho, Fixs.snoc (hf.turn (fun p hp => ?_) (fun q hq => ?_) (by omega)) (hx.turn (fun p hp => ?_) (fun q hq => ?_) (by omega))⟩
  · rcases hp with h | ⟨h1, h2, h3⟩
    · exact (World.cell?_of_block (hg.block p.block (by omega) (fun e => by have := hr _ e.symm; omega))).trans (hb.cell (by omega))
    · exact (World.cell?_of_block (hg.block p.block (by omega) (fun e => h3 e.symm))).trans (hb.cell (by omega))
  · rcases hq with h | ⟨h1, h2, h3⟩
    · exact .inl h
    · exact .inr ⟨h1, by omega, hne q (by omega) h3⟩
  · rcases hp with h | ⟨h1, h2⟩
    · exact World.cell?_of_block (hg.block p.block (by omega) (fun e => by have := hr _ e.symm; omega))
    · exact World.cell?_of_block (hg.block p.block (by omega) (fun e => by have := hr _ e.symm; omega))
  · rcases hq with h | ⟨h1, h2⟩
    · exact .inl h
    · exact .inr ⟨by omega, by omega, hne q (by omega) (fun e => by have := hr _ e; omega)⟩
theorem Row.set {w : World} {B L : Nat} {l : List Itm} {vv : Value} (h : Row w B L l vv) (hBL : B ≤ L) {g : Nat} (hg : B ≤ g) (hgL : g < L) (i : Nat) (u : Value) : Row (w.setCell ⟨g, i, none⟩ u) B L l vv := by
  obtain ⟨vs, ho, hf⟩ := h
  have hgr : w.grownBy (w.setCell ⟨g, i, none⟩ u) (some g) := only_set (p := ⟨g, i, none⟩) (only_below (Below.refl _ _)) rfl u
  have hz : (w.setCell ⟨g, i, none⟩ u).heap.size = w.heap.size := by simp [World.setCell]
  refine ⟨vs, ho.kept hgr (.inr (fun e => by have := (ho.lt g e).1; omega)), hf.turn (fun p hp => ?_) (fun q hq => ?_) (Nat.le_of_eq hz.symm)⟩
  · refine keep_set (w := w) (p := ⟨g, i, none⟩) (lo := p.block) (hi := p.block + 1) ?_ u p (Nat.le_refl _) (by omega)
    show g < p.block ∨ p.block + 1 ≤ g
    rcases hp with h | ⟨h1, _⟩ <;> omega
  · rcases hq with h | ⟨h1, h2, h3⟩
    · exact .inl h
    · exact .inr ⟨h1, by omega, h3⟩
/-- What a call of As leaves. -/
def Ans (w w' : World) (B : Nat) (x : Itm) (v : Value) : Prop := Fix (fun q => q < B ∨ (w.heap.size ≤ q ∧ q < w'.heap.size)) w' w'.heap.size x v

/-- A round of As's loop, behind it. -/
theorem round_ {W0 wr wd w3 w4 : World} {n B k c cap : Nat} {A A4 : Option Addr} {y : Itm} {vv : Value} {z1 z2 : Int} {Z1 Z2 : Option Addr} {z3 z4 z5 z6 : Nat} {vs : List Value} {l : List Itm} {kd nm : Int} {bl : Nat}
    (hB : B ≤ n) (hz : n + 3 ≤ wr.heap.size) (hd : wd.heap.size = wr.heap.size) (h3 : Below wr.heap.size wr w3) (hA : Ans wd w3 B y (.agg #[.int .i64 z1, .int .u64 z2, .slice Z1 z3 z4, .slice Z2 z5 z6]))
    (hf : Fixs (Way B (n + 3) wr.heap.size vv.ownBlock) wr wr.heap.size l vs) (hr : ∀ r, vv.ownBlock = some r → n + 3 ≤ r ∧ r < wr.heap.size) (hrow : Row wr B (n + 3) l vv)
    (hK : Blk wr (n + 1 + 1) 49 #[.int .i64 kd, .int .u64 nm, .slice A bl c, vv])
    (hl : l.length = k)
    (ho : w4.ownsRow (n + 3) 49 4 (.slice A4 (k + 1) cap) (k + 1) (vs ++ [.int .i64 z1, .int .u64 z2, .slice Z1 z3 z4, .slice Z2 z5 z6]))
    (hg : (w3.alloc (.cells #[.int .i64 z1, .int .u64 z2, .slice Z1 z3 z4, .slice Z2 z5 z6] 49)).grownBy w4 vv.ownBlock)
    (hat : (Value.slice A4 (k + 1) cap).ownBlock = vv.ownBlock ∨ (Value.slice A4 (k + 1) cap).ownBlock = some (w3.alloc (.cells #[.int .i64 z1, .int .u64 z2, .slice Z1 z3 z4, .slice Z2 z5 z6] 49)).heap.size)
    (hW : Below (n + 1 + 1) W0 wr) :
    Blk (w4.setCell ⟨n + 1 + 1, 3, none⟩ (.slice A4 (k + 1) cap)) (n + 1 + 1) 49 #[.int .i64 kd, .int .u64 nm, .slice A bl c, .slice A4 (k + 1) cap] ∧
    Row (w4.setCell ⟨n + 1 + 1, 3, none⟩ (.slice A4 (k + 1) cap)) B (n + 3) (l ++ [y]) (.slice A4 (k + 1) cap) ∧ Below (n + 1 + 1) W0 (w4.setCell ⟨n + 1 + 1, 3, none⟩ (.slice A4 (k + 1) cap)) := by
  have hs3 := h3.size
  have hba := h3.alloc hs3 (.cells #[.int .i64 z1, .int .u64 z2, .slice Z1 z3 z4, .slice Z2 z5 z6] 49)
  have hza : (w3.alloc (.cells #[.int .i64 z1, .int .u64 z2, .slice Z1 z3 z4, .slice Z2 z5 z6] 49)).heap.size = w3.heap.size + 1 := by simp
  refine ⟨?_, ?_, ?_⟩
  · have hk : Blk w4 (n + 1 + 1) 49 #[.int .i64 kd, .int .u64 nm, .slice A bl c, vv] := blk_grown ((hK.below h3 hK.lt).alloc _) hg (fun e => by have := (hr _ e).1; omega)
    simpa using hk.set_ 3 (.slice A4 (k + 1) cap)
  · refine (Row.snoc (w0 := wr) (l := l) (x := y) (cs := [.int .i64 z1, .int .u64 z2, .slice Z1 z3 z4, .slice Z2 z5 z6]) hrow (by omega) hz hba ?_ vs hf hr (by rw [hl]; exact ho) hg hat).set (by omega) (by omega) (by omega) 3 _
    refine Fix.turn hA (fun p hp => ?_) (fun q hq => ?_) (by omega)
    · refine ((Below.refl w3.heap.size w3).alloc (Nat.le_refl _) _).cell ?_
      rcases hp with h | ⟨_, h⟩
      · omega
      · exact h
    · rcases hq with h | ⟨h1, h2⟩
      · exact .inl h
      · exact .inr ⟨by omega, by omega⟩
  · refine Below.setCell (p := ⟨n + 1 + 1, 3, none⟩) (hW.trans ?_) (Nat.le_refl _) _
    exact (hba.mono (by omega)).grown hg (by rw [hza]; have := hW.size; omega) (fun r hr' => by have := (hr r hr').1; omega)

/-- The end of As. -/
theorem fin_ {w W0 wr : World} {B c cap : Nat} {A A4 : Option Addr} {x : Itm} {vs : List Value} (hB : B ≤ w.heap.size) (hz : w.heap.size + 3 ≤ wr.heap.size)
    (hX : (-9223372036854775808 ≤ x.kind ∧ x.kind ≤ 9223372036854775807) ∧ (0 ≤ x.num ∧ x.num ≤ 18446744073709551615) ∧ St.bts x.bs ∧ x.bs.length ≤ c ∧ c ≤ maxLen ∧ Seg w 0 B A (u8s x.bs))
    (h0 : Below w.heap.size w W0) (hW : Below (w.heap.size + 1 + 1) W0 wr) (ho : wr.ownsRow (w.heap.size + 3) 49 4 (.slice A4 x.sub.length cap) x.sub.length vs) (hf : Fixs (Way B (w.heap.size + 3) wr.heap.size (Value.slice A4 x.sub.length cap).ownBlock) wr wr.heap.size x.sub vs)
    (hc : x.sub.length ≤ cap) (hm : cap ≤ maxLen) (a1 a2 a3 a4 : Value) :
    Ans w ((((wr.setCell ⟨w.heap.size + 1, 0, none⟩ a1).setCell ⟨w.heap.size + 1, 1, none⟩ a2).setCell ⟨w.heap.size + 1, 2, none⟩ a3).setCell ⟨w.heap.size + 1, 3, none⟩ a4) B x (.agg #[.int .i64 x.kind, .int .u64 x.num, .slice A x.bs.length c, .slice A4 x.sub.length cap]) ∧
    Below w.heap.size w ((((wr.setCell ⟨w.heap.size + 1, 0, none⟩ a1).setCell ⟨w.heap.size + 1, 1, none⟩ a2).setCell ⟨w.heap.size + 1, 2, none⟩ a3).setCell ⟨w.heap.size + 1, 3, none⟩ a4) := by
  have hb : Below w.heap.size w wr := h0.trans (hW.mono (by omega))
  have hgr : wr.grownBy ((((wr.setCell ⟨w.heap.size + 1, 0, none⟩ a1).setCell ⟨w.heap.size + 1, 1, none⟩ a2).setCell ⟨w.heap.size + 1, 2, none⟩ a3).setCell ⟨w.heap.size + 1, 3, none⟩ a4) (some (w.heap.size + 1)) := only_set4 (only_below (Below.refl _ _)) a1 a2 a3 a4
  have hb2 : Below w.heap.size w ((((wr.setCell ⟨w.heap.size + 1, 0, none⟩ a1).setCell ⟨w.heap.size + 1, 1, none⟩ a2).setCell ⟨w.heap.size + 1, 2, none⟩ a3).setCell ⟨w.heap.size + 1, 3, none⟩ a4) := hb.grown hgr hb.size (fun r hr => by injection hr with hr; omega)
  have hz2 : wr.heap.size ≤ ((((wr.setCell ⟨w.heap.size + 1, 0, none⟩ a1).setCell ⟨w.heap.size + 1, 1, none⟩ a2).setCell ⟨w.heap.size + 1, 2, none⟩ a3).setCell ⟨w.heap.size + 1, 3, none⟩ a4).heap.size := hgr.size
  have ho2 := ho.kept hgr (.inr (fun e => by have := (ho.lt _ e).1; omega))
  generalize ((((wr.setCell ⟨w.heap.size + 1, 0, none⟩ a1).setCell ⟨w.heap.size + 1, 1, none⟩ a2).setCell ⟨w.heap.size + 1, 2, none⟩ a3).setCell ⟨w.heap.size + 1, 3, none⟩ a4) = w2 at *
  obtain ⟨hk, hn, hbt, h1, h2, h3⟩ := hX
  refine ⟨fun W hWc => ?_, hb2⟩
  refine ItemV.of hk hn hbt h1 h2 ((h3.keep (fun p _ hp => ?_)).more (Nat.le_refl _) (by omega)) hc hm ⟨vs, ?_, ?_⟩
  · exact (hWc p (.inl hp)).trans (hb2.cell (by omega))
  · exact ((Seg.of_own ho2).keep (fun p h5 h6 => hWc p (.inr ⟨by omega, h6⟩))).more (Nat.zero_le _) (Nat.le_refl _)
  · refine (hf W (fun p hp => ?_)).more (Nat.le_refl _) hz2
    rcases hp with h | ⟨h5, h6, h7⟩
    · exact (hWc p (.inl h)).trans (World.cell?_of_block (hgr.block p.block (by omega) (fun e => by injection e; omega)))
    · exact (hWc p (.inr ⟨by omega, by omega⟩)).trans (World.cell?_of_block (hgr.block p.block h6 (fun e => by injection e; omega)))

set_option maxRecDepth 100000 in
set_option maxHeartbeats 4000000 in
theorem as_rec (N : Nat) : ∀ (x : Itm) (v : Value) (B : Nat) (lf : Int) (w : World), deep x ≤ N → ItemV w 0 B x v → B ≤ w.heap.size → (deep x : Int) ≤ lf → lf ≤ 100 → size x ≤ 100000 →
    Calls Tryd.prog 20 #[v, .int .i64 lf] w fun e w' => ∃ v', e = .returned v' ∧ Hid (Ans w w' B x v') ∧ Below w.heap.size w w' := by
  obtain ⟨i0, z0, hi0, hz0, hz1, hz2, hz3⟩ : ∃ i z, Tryd.prog.info? 49 = some i ∧ i.zero = some z ∧ i.size = 4 ∧ z.cells.size = 4 ∧ i.bytes = 64 := ⟨_, _, rfl, rfl, rfl, rfl, rfl⟩
  induction N with
  | zero => intro x v B lf w hN; have := deep_pos x; omega
  | succ N ih =>
    intro x v B lf w hN hv hB hd hlf hsz
    obtain ⟨A, c, A', c', rfl, hk, hn, hb, h1, h2, h3, h4, h5, h6⟩ := hv.open_
    have hds := Nat.le_of_eq (deep_sub x)
    have hds' := Nat.le_of_eq (deep_sub x).symm
    have hss := Nat.le_of_eq (size_sub x).symm
    have hls := length_le_sizes x.sub
    have hlen : x.sub.length ≤ 100000 := by omega
    have HI := Lib.hid h6
    have HX := Lib.hid (And.intro hk (And.intro hn (And.intro hb (And.intro h1 (And.intro h2 h3)))))
    clear hv h3 h6 hk hn hb h1 h2
    have HM := Lib.hid h5
    unfold maxLen at h5
    go_enter Tryd.func20, Tryd.ntmps20
    go_wp2_with fail
    have HB0 := Lib.hid ((((Below.refl w.heap.size w).alloc (Nat.le_refl _) (.cells #[.int .i64 x.kind, .int .u64 x.num, .slice A x.bs.length c, .slice A' x.sub.length c'] 30)).alloc (by simp) (.cells #[.int .i64 0, .int .u64 0, .slice none 0 0, .slice none 0 0] 49)).alloc (by simp; omega) (.cells #[.int .i64 x.kind, .int .u64 x.num, .slice A x.bs.length c, .slice none 0 0] 49))
    have HK0 := Lib.hid (((Blk.new w 30 #[.int .i64 x.kind, .int .u64 x.num, .slice A x.bs.length c, .slice A' x.sub.length c']).alloc (.cells #[.int .i64 0, .int .u64 0, .slice none 0 0, .slice none 0 0] 49)).alloc (.cells #[.int .i64 x.kind, .int .u64 x.num, .slice A x.bs.length c, .slice none 0 0] 49))
    have HK1 := Lib.hid ((Blk.new (w.alloc (.cells #[.int .i64 x.kind, .int .u64 x.num, .slice A x.bs.length c, .slice A' x.sub.length c'] 30)) 49 #[.int .i64 0, .int .u64 0, .slice none 0 0, .slice none 0 0]).alloc (.cells #[.int .i64 x.kind, .int .u64 x.num, .slice A x.bs.length c, .slice none 0 0] 49))
    have HK2 := Lib.hid (Blk.new ((w.alloc (.cells #[.int .i64 x.kind, .int .u64 x.num, .slice A x.bs.length c, .slice A' x.sub.length c'] 30)).alloc (.cells #[.int .i64 0, .int .u64 0, .slice none 0 0, .slice none 0 0] 49)) 49 #[.int .i64 x.kind, .int .u64 x.num, .slice A x.bs.length c, .slice none 0 0])
    simp only [World.size_alloc] at HK1 HK2
    have hz0 : (((w.alloc (.cells #[.int .i64 x.kind, .int .u64 x.num, .slice A x.bs.length c, .slice A' x.sub.length c'] 30)).alloc (.cells #[.int .i64 0, .int .u64 0, .slice none 0 0, .slice none 0 0] 49)).alloc (.cells #[.int .i64 x.kind, .int .u64 x.num, .slice A x.bs.length c, .slice none 0 0] 49)).heap.size = w.heap.size + 1 + 1 + 1 := by simp
    generalize ((w.alloc (.cells #[.int .i64 x.kind, .int .u64 x.num, .slice A x.bs.length c, .slice A' x.sub.length c'] 30)).alloc (.cells #[.int .i64 0, .int .u64 0, .slice none 0 0, .slice none 0 0] 49)).alloc (.cells #[.int .i64 x.kind, .int .u64 x.num, .slice A x.bs.length c, .slice none 0 0] 49) = W0 at *
    have hzl : W0.heap.size ≤ w.heap.size + 3 := Nat.le_of_eq hz0
    have hzg : w.heap.size + 3 ≤ W0.heap.size := Nat.le_of_eq hz0.symm
    clear hz0
    go_loopw [6] (fun i wr => ∃ (k : Nat) (vv : Value), k ≤ x.sub.length ∧ i = .int .i64 k ∧ Hid (Blk wr (w.heap.size + 1 + 1) 49 #[.int .i64 x.kind, .int .u64 x.num, .slice A x.bs.length c, vv]) ∧ Hid (Row wr B (w.heap.size + 3) (x.sub.take k) vv) ∧ Hid (Below (w.heap.size + 1 + 1) W0 wr)) (fun i _ => x.sub.length - (intOf i).toNat)
    case atStart => exact ⟨0, _, by omega, rfl, HK2, Lib.hid (Row.nil _ _ _), Lib.hid (Below.refl _ _)⟩
    case round =>
      obtain ⟨k, vv, hk, rfl, HKr, HRr, HWr⟩ := hrel
      clear HK2
      have hsr := HWr.out.size
      have g3 : wr.cell? ⟨w.heap.size, 3, none⟩ = some (.slice A' x.sub.length c') := (HWr.out.cell (p := ⟨w.heap.size, 3, none⟩) (by show w.heap.size < _; omega)).trans (by simpa using HK0.out.cell 3)
      by_cases hlt : k < x.sub.length
      · have hIr := ((HI.out.below (HB0.out.mono hB)).below (HWr.out.mono (by omega)))
        obtain ⟨b, o, A1, cc, A2, cc', rfl, b0, b1, e0, e1, e2, e3, q1, q2, q3, q4, q5, q6, q7, q8, q9⟩ := hIr.at_ hlt
        have hvI : ItemV wr 0 B x.sub[k] (.agg #[.int .i64 x.sub[k].kind, .int .u64 x.sub[k].num, .slice A1 x.sub[k].bs.length cc, .slice A2 x.sub[k].sub.length cc']) := ItemV.of q1 q2 q3 q4 q5 q6 q7 q8 q9
        obtain ⟨vs, hown, hfix⟩ := HRr.out
        have hol : (x.sub.take k).length = k := by simp; omega
        have hob : ∀ r, vv.ownBlock = some r → w.heap.size + 3 ≤ r ∧ r < wr.heap.size := fun r hr => hown.lt r hr
        have KC := Lib.hid (fun (W : World) (hW : ∀ p : Addr, p.block < wr.heap.size → vv.ownBlock ≠ some p.block → W.cell? p = wr.cell? p) => show W.cell? ⟨w.heap.size + 1 + 1, 3, none⟩ = some vv ∧ W.cell? ⟨w.heap.size, 3, none⟩ = some (.slice (some ⟨b, o, none⟩) x.sub.length c') ∧ W.cell? ⟨b, o + k * 4, none⟩ = some (.int .i64 x.sub[k].kind) ∧ W.cell? ⟨b, o + k * 4 + 1, none⟩ = some (.int .u64 x.sub[k].num) ∧ W.cell? ⟨b, o + k * 4 + 2, none⟩ = some (.slice A1 x.sub[k].bs.length cc) ∧ W.cell? ⟨b, o + k * 4 + 3, none⟩ = some (.slice A2 x.sub[k].sub.length cc') from by
          have hb' : ∀ q, q < w.heap.size + 3 → vv.ownBlock ≠ some q := fun q hq e => by have := (hob q e).1; omega
          refine ⟨(hW _ (by show w.heap.size + 1 + 1 < _; omega) (hb' _ (by show w.heap.size + 1 + 1 < _; omega))).trans (by simpa using HKr.out.cell 3), (hW _ (by show w.heap.size < _; omega) (hb' _ (by show w.heap.size < _; omega))).trans g3, (hW _ (by show b < _; omega) (hb' _ (by show b < _; omega))).trans e0, (hW _ (by show b < _; omega) (hb' _ (by show b < _; omega))).trans e1, (hW _ (by show b < _; omega) (hb' _ (by show b < _; omega))).trans e2, (hW _ (by show b < _; omega) (hb' _ (by show b < _; omega))).trans e3⟩)
        have CI := Lib.hid (fun (W : World) (hW : Below wr.heap.size wr W) => ih x.sub[k] _ B (lf - 1) W (by have := deep_at x.sub k hlt; omega) (hvI.below (hW.mono (by omega))) (by have := hW.size; omega) (by have := deep_at x.sub k hlt; omega) (by omega) (by have := size_at x.sub k hlt; omega))
        have HOW := Lib.hid hown
        have HOK : Hid (wr.ownsRow (w.heap.size + 3) 49 4 vv k vs) := Lib.hid (by rw [hol] at hown; exact hown)
        have HFX := Lib.hid hfix
        have HOB := Lib.hid hob
        have HGG := Lib.hid (fun (w3 : World) (o : Obj) (w4 : World) (h3 : Below wr.heap.size wr w3) (h4 : (w3.alloc o).grownBy w4 vv.ownBlock) => show ∀ p : Addr, p.block < wr.heap.size → vv.ownBlock ≠ some p.block → w4.cell? p = wr.cell? p from fun p hp hn => by
          have hs := h3.size
          exact (World.cell?_of_block (h4.block p.block (by simp; omega) (fun e => hn e.symm))).trans ((h3.alloc h3.size o).cell hp))
        have HKK := Lib.hid (fun (w3 : World) (o : Obj) (w4 : World) (h3 : Below wr.heap.size wr w3) (h4 : (w3.alloc o).grownBy w4 vv.ownBlock) => show Blk w4 (w.heap.size + 1 + 1) 49 #[.int .i64 x.kind, .int .u64 x.num, .slice A x.bs.length c, vv] from blk_grown ((HKr.out.below h3 HKr.out.lt).alloc o) h4 (fun e => by have := (hob _ e).1; omega))
        have HFR := Lib.hid (fun (w3 : World) (o : Obj) (w4 : World) (h3 : Below wr.heap.size wr w3) (h4 : (w3.alloc o).grownBy w4 vv.ownBlock) => (HKK.out w3 o w4 h3 h4).frozen 3)
        have HBd := Lib.hid ((Below.refl wr.heap.size wr).drew)
        have c0 : decide ((k : Int) < (x.sub.length : Int)) = true := decide_eq_true (by omega)
        have c1 : decide (0 < lf) = true := decide_eq_true (by have := deep_pos x; omega)
        have j0 : (0 : Int) ≤ (k : Int) := by omega
        have j1 : (k : Int) < (x.sub.length : Int) := by omega
        clear hvI hIr q3 q6 q9 hown hfix hob
        have hwr1 : IntKind.i64.wrap (lf - 1) = lf - 1 := by rw [IntKind.wrap_i64]; have := deep_pos x; omega
        have HWR := Lib.hid hwr1
        have hn9 : w.heap.size < wr.heap.size := by omega
        have hne : w.heap.size + 1 + 1 ≠ w.heap.size := by omega
        have hn11 : w.heap.size + 1 + 1 < wr.heap.size := by omega
        have HML : k + 1 ≤ maxLen := by unfold maxLen; omega
        clear hwr1
        go_wp2_with fail
        have hwr1 := HWR.out
        have gk0 := (KC.out wr (fun _ _ _ => rfl)).1
        go_region_law (first | (go_simp; go_at_call 20; (refine (CI.out _ HBd.out).mono ?_); rintro e w3 ⟨v3, rfl, HA3, hb3⟩; obtain ⟨z1, z2, Z1, z3, z4, Z2, z5, z6, rfl⟩ := ItemV_four HA3.out.self; have HB3 := Lib.hid (HBd.out.trans hb3); have gk3 := (KC.out w3 (fun _ h _ => HB3.out.cell h)).1; go_loud (have hl3 : w.heap.size + 1 + 1 < w3.heap.size := Nat.lt_of_lt_of_le hn11 HB3.out.size); clear hb3) | ((refine step_append_seg _ (by rfl) (.tmp 26) (.tmp 35) _ (by rfl) (w.heap.size + 3) 49 i0 _ 64 Tryd.underlying47 hi0 hz0 4 hz1 hz3 hz2 (by omega) vv k vs (by rfl) (own_later HOK.out (HB3.out.alloc HB3.out.size _)) 0 (w3.heap.size + 1) (some ⟨w3.heap.size, 0, none⟩) 1 1 [.int .i64 z1, .int .u64 z2, .slice Z1 z3 z4, .slice Z2 z5 z6] (by rfl) rfl (Seg.of_lst (Lst.lit w3 _ 49)) (by simp [Value.oneCell']) HML (by omega) (by have := HB3.out.size; simp; omega) ?_); intro v4 w4 hown4 hg4 hat4; obtain ⟨A4, c4, rfl, hc4, hm4⟩ := own_sl hown4; have gk4 := (KC.out w4 (HGG.out w3 _ w4 HB3.out hg4)).1; have hf4 := HFR.out w3 _ w4 HB3.out hg4) | fail)
        all_goals
          have HST := Lib.hid (round_ (n := w.heap.size) (hB := hB) (by omega) rfl HB3.out HA3.out HFX.out HOB.out HRr.out HKr.out hol hown4 hg4 hat4 HWr.out)
          clear hown4 hg4 hat4 gk0 gk3 gk4 hf4
          go_wp2_with fail
          go_roundw
          case rel => exact ⟨k + 1, _, by omega, by go_num, Lib.hid HST.out.1, Lib.hid (by rw [take_snoc x.sub k hlt]; exact HST.out.2.1), Lib.hid HST.out.2.2⟩
          case measure => simp [intOf]; omega
      · obtain rfl : k = x.sub.length := by omega
        have c0 : decide ((x.sub.length : Int) < (x.sub.length : Int)) = false := decide_eq_false (by omega)
        obtain ⟨vs, hown, hfix⟩ := HRr.out
        rw [take_all] at hown hfix
        obtain ⟨A4, c4, rfl, hc4, hm4⟩ := own_sl hown
        have HOW := Lib.hid hown
        have HFX := Lib.hid hfix
        have p0 : wr.cell? ⟨w.heap.size + 1 + 1, 0, none⟩ = some (.int .i64 x.kind) := by simpa using HKr.out.cell 0
        have p1 : wr.cell? ⟨w.heap.size + 1 + 1, 1, none⟩ = some (.int .u64 x.num) := by simpa using HKr.out.cell 1
        have p2 : wr.cell? ⟨w.heap.size + 1 + 1, 2, none⟩ = some (.slice A x.bs.length c) := by simpa using HKr.out.cell 2
        have p3 : wr.cell? ⟨w.heap.size + 1 + 1, 3, none⟩ = some (.slice A4 x.sub.length c4) := by simpa using HKr.out.cell 3
        have HK1r := Lib.hid (HK1.out.below HWr.out (by omega))
        have d0 : wr.cell? ⟨w.heap.size + 1, 0, none⟩ = some (.int .i64 0) := by simpa using HK1r.out.cell 0
        have d1 : wr.cell? ⟨w.heap.size + 1, 1, none⟩ = some (.int .u64 0) := by simpa using HK1r.out.cell 1
        have d2 : wr.cell? ⟨w.heap.size + 1, 2, none⟩ = some (.slice none 0 0) := by simpa using HK1r.out.cell 2
        have d3 : wr.cell? ⟨w.heap.size + 1, 3, none⟩ = some (.slice none 0 0) := by simpa using HK1r.out.cell 3
        have e0 := HK1r.out.frozen 0
        have e1 := HK1r.out.frozen 1
        have e2 := HK1r.out.frozen 2
        have e3 := HK1r.out.frozen 3
        clear hown hfix
        go_wp2_with fail
        have HFN := Lib.hid (fin_ (a1 := .int .i64 x.kind) (a2 := .int .u64 x.num) (a3 := .slice A x.bs.length c) (a4 := .slice A4 x.sub.length c4) hB (by omega) HX.out HB0.out HWr.out HOW.out HFX.out hc4 hm4)
        refine bodyPost_ret (v := .agg #[.int .i64 x.kind, .int .u64 x.num, .slice A x.bs.length c, .slice A4 x.sub.length c4]) (by simp [results, Tryd.results20, go_sem, d0, d1, d2, d3, e0, e1, e2, e3]) rfl ⟨_, rfl, Lib.hid HFN.out.1, HFN.out.2⟩

theorem as_any (x : Itm) (v : Value) (B : Nat) (lf : Int) (w : World) (hv : ItemV w 0 B x v) (hB : B ≤ w.heap.size) (hd : (deep x : Int) ≤ lf) (hl : lf ≤ 100) (hs : size x ≤ 100000) :
    Calls Tryd.prog 20 #[v, .int .i64 lf] w fun e w' => ∃ v', e = .returned v' ∧ Hid (ItemV w' 0 w'.heap.size x v') ∧ Below w.heap.size w w' := by
  refine (as_rec (deep x) x v B lf w (Nat.le_refl _) hv hB hd hl hs).mono ?_
  rintro e w' ⟨v', rfl, HA, hb⟩
  exact ⟨v', rfl, Lib.hid HA.out.self, hb⟩
end Go.Proofs.YtbgcbcnidjlhnaaDoor.As03
