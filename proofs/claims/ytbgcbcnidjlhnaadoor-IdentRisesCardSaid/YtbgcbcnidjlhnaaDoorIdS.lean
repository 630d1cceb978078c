/- Seven cells written; the contract of Great of layer 5's statements. -/
import Derived.Test.YtbgcbcnidjlhnaaDoorIdW2
import Derived.Deep.RegionHeld3
namespace Go.Proofs.YtbgcbcnidjlhnaaDoor.Eid
open Go.RowKit Wd Cb

/-- Seven cells written one behind the other. -/
abbrev set7 (w : World) (g : Nat) (a b c d e f k : Value) : World := (((((((w.setCell ⟨g, 0, none⟩ a).setCell ⟨g, 1, none⟩ b).setCell ⟨g, 2, none⟩ c).setCell ⟨g, 3, none⟩ d).setCell ⟨g, 4, none⟩ e).setCell ⟨g, 5, none⟩ f).setCell ⟨g, 6, none⟩ k)
theorem set7_blk {w : World} {g : Nat} {t : TypeId} {a0 b0 c0 d0 e0 f0 k0 : Value} (h : Blk w g t #[a0, b0, c0, d0, e0, f0, k0]) (a b c d e f k : Value) : Blk (set7 w g a b c d e f k) g t #[a, b, c, d, e, f, k] := by
  simpa using ((((((h.set_ 0 a).set_ 1 b).set_ 2 c).set_ 3 d).set_ 4 e).set_ 5 f).set_ 6 k
theorem set7_below {B g : Nat} {w0 w : World} (hb : Below B w0 w) (hB : B ≤ g) (a b c d e f k : Value) : Below B w0 (set7 w g a b c d e f k) :=
  ((((((hb.setCell (p := ⟨g, 0, none⟩) hB a).setCell (p := ⟨g, 1, none⟩) hB b).setCell (p := ⟨g, 2, none⟩) hB c).setCell (p := ⟨g, 3, none⟩) hB d).setCell (p := ⟨g, 4, none⟩) hB e).setCell (p := ⟨g, 5, none⟩) hB f).setCell (p := ⟨g, 6, none⟩) hB k
theorem set7_far {w : World} {g k : Nat} {t : TypeId} {cs : Array Value} (h : Blk w g t cs) (hn : g ≠ k) (a b c d e f l : Value) : Blk (set7 w k a b c d e f l) g t cs :=
  ((((((h.far (p := ⟨k, 0, none⟩) hn a).far (p := ⟨k, 1, none⟩) hn b).far (p := ⟨k, 2, none⟩) hn c).far (p := ⟨k, 3, none⟩) hn d).far (p := ⟨k, 4, none⟩) hn e).far (p := ⟨k, 5, none⟩) hn f).far (p := ⟨k, 6, none⟩) hn l
theorem set7_size (w : World) (g : Nat) (a b c d e f k : Value) : (set7 w g a b c d e f k).heap.size = w.heap.size := by simp [World.setCell]
theorem froz7 {w : World} {g : Nat} {t : TypeId} {cs : Array Value} (h : Blk w g t cs) : w.frozen? ⟨g, 0, none⟩ = false ∧ w.frozen? ⟨g, 1, none⟩ = false ∧ w.frozen? ⟨g, 2, none⟩ = false ∧ w.frozen? ⟨g, 3, none⟩ = false ∧ w.frozen? ⟨g, 4, none⟩ = false ∧ w.frozen? ⟨g, 5, none⟩ = false ∧ w.frozen? ⟨g, 6, none⟩ = false :=
  ⟨h.frozen 0, h.frozen 1, h.frozen 2, h.frozen 3, h.frozen 4, h.frozen 5, h.frozen 6⟩
abbrev zero7 : Array Value := #[.bool false, .int .u64 0, .int .u64 0, .string ⟨#[]⟩, .string ⟨#[]⟩, .int .u64 0, .int .u64 0]

set_option maxHeartbeats 2000000 in
theorem great05_any (x : Id) (w : World) : Calls Tryd.prog 12 #[x.val] w fun e w' => e = .returned (.bool (decide (300 < wrap64 ((x.src.host.size : Int) + x.src.demux.size)))) ∧ Below w.heap.size w w' := by
  obtain ⟨⟨i, n, s, h, d⟩, t, q⟩ := x
  have HB := Lib.hid ((Below.refl w.heap.size w).alloc (Nat.le_refl _) (.cells #[.bool i, .int .u64 n, .int .u64 s, .string h, .string d, .int .u64 t, .int .u64 q] 26))
  have HK := Lib.hid (Blk.new w 26 #[.bool i, .int .u64 n, .int .u64 s, .string h, .string d, .int .u64 t, .int .u64 q])
  go_enter Tryd.func12, Tryd.ntmps12
  go_upto_region 1 with (fail)
  obtain ⟨c0, c1, c2, c3, c4, c5, c6⟩ := cells7 HK.out
  go_wp2_with fail
  go_ret
  exact ⟨rfl, HB.out⟩

end Go.Proofs.YtbgcbcnidjlhnaaDoor.Eid
