/- The contracts of cbor's copies: slices.Clip, copyBytes, Num, Bytes, Text. -/
import Derived.Test.YtbgcbcnidjlhnaaDoorProg
import Derived.Test.YtbgcbcnidjlhnaaDoorAppS
import Derived.WalkKit
import Derived.WalkSpells
import Derived.Lib.Hide
import Derived.Outline
import Derived.Deep.QuietTactic
import Derived.BigQuiet
import Derived.Laws.Pointers
import Derived.Lib.ConvBytes
namespace Go.Proofs.YtbgcbcnidjlhnaaDoor.CbCopy
open Go.RowKit Wd Cb

theorem clip_bytes (A : Option Addr) (n c : Nat) (w : World) (hn : n ≤ c) (hc : c ≤ maxLen) :
    Calls Tryd.prog 92 #[.slice A n c] w fun e w' => e = .returned (.slice A n n) ∧ w = w' := by
  unfold maxLen at hc
  go_enter Tryd.func92, Tryd.ntmps92
  go_wp2_with fail
  go_ret
  exact ⟨rfl, rfl⟩
theorem clip_items (A : Option Addr) (n c : Nat) (w : World) (hn : n ≤ c) (hc : c ≤ maxLen) :
    Calls Tryd.prog 74 #[.slice A n c] w fun e w' => e = .returned (.slice A n n) ∧ w = w' := by
  unfold maxLen at hc
  go_enter Tryd.func74, Tryd.ntmps74
  go_wp2_with fail
  go_ret
  exact ⟨rfl, rfl⟩

theorem info_u8 : (Tryd.prog.info? 5).map (fun i => (i.zero, i.size, i.bytes)) = some (some (.int .u8 0), 1, 1) := by kernel_rfl
theorem own_sl {w : World} {base n s : Nat} {e : TypeId} {v : Value} {vs : List Value} (h : w.ownsRow base e s v n vs) : ∃ A c, v = .slice A n c ∧ n ≤ c ∧ c ≤ maxLen := by
  rcases h.2 with ⟨h', hn⟩ | ⟨g, cap', cur, h', _, _, hc, hm, _⟩
  · subst hn
    exact ⟨none, 0, h', Nat.le_refl _, by simp [maxLen]⟩
  · exact ⟨_, _, h', hc, hm⟩

theorem copyBytes_any (A : Option Addr) (B c : Nat) (xs : List Int) (w : World) (hs : Lst w B A (u8s xs)) (hB : B ≤ w.heap.size) (hl : xs.length ≤ 100000000000000) :
    Calls Tryd.prog 107 #[.slice A xs.length c] w fun e w' =>
      ∃ A', e = .returned (.slice A' xs.length xs.length) ∧ Hid (Seg w' w.heap.size w'.heap.size A' (u8s xs)) ∧ Below w.heap.size w w' := by
  obtain ⟨i0, hi0, hz0, hz1, hz2⟩ := info_parts info_u8
  have HM : xs.length ≤ maxLen := by unfold maxLen; omega
  have HS := Lib.hid hs
  clear hs
  go_enter Tryd.func107, Tryd.ntmps107
  go_wp2_with (first
    | (at_builtin
       refine wpList_append_lst _ rfl (.const (.slice none 0 0)) (.tmp 3) _ (by rfl) w.heap.size 5 i0 _ 1 Tryd.underlying27 hi0 hz0 hz1 hz2 rfl (.slice none 0 0) 0 [] (by rfl) ⟨by simp, .inl ⟨rfl, rfl⟩⟩
         B A xs.length c (u8s xs) (by rfl) (by simp) HS.out (u8_one xs) (by omega) (by omega) (Nat.le_refl _) ?_
       intro v1 w1 hown1 hg1 hat1
       have HO1 := Lib.hid hown1
       have HB1 := Lib.hid ((Below.refl w.heap.size w).grown hg1 (Nat.le_refl _) (fun k hk => by simp [Value.ownBlock] at hk))
       clear hown1 hg1 hat1))
  have ho := HO1.out
  rw [Nat.zero_add, List.nil_append] at ho
  obtain ⟨A1, c1, rfl, hc1, hm1⟩ := own_sl ho
  have HO := Lib.hid ho
  clear ho HO1
  refine (clip_bytes A1 xs.length c1 _ hc1 hm1).mono ?_
  rintro e w2 ⟨rfl, rfl⟩
  go_wp2_with fail
  go_ret
  exact ⟨A1, rfl, Lib.hid (Seg.of_own HO.out), HB1.out⟩

/-- What is new: nothing but zeros. -/
theorem zero_item {w w1 : World} {t : TypeId} (hb : Below (w.alloc (.cells #[.int .i64 0, .int .u64 0, .slice none 0 0, .slice none 0 0] t)).heap.size (w.alloc (.cells #[.int .i64 0, .int .u64 0, .slice none 0 0, .slice none 0 0] t)) w1) :
    (w1.cell? ⟨w.heap.size, 0, none⟩ = some (.int .i64 0) ∧ w1.cell? ⟨w.heap.size, 1, none⟩ = some (.int .u64 0) ∧ w1.cell? ⟨w.heap.size, 2, none⟩ = some (.slice none 0 0) ∧ w1.cell? ⟨w.heap.size, 3, none⟩ = some (.slice none 0 0)) ∧
    (w1.frozen? ⟨w.heap.size, 0, none⟩ = false ∧ w1.frozen? ⟨w.heap.size, 1, none⟩ = false ∧ w1.frozen? ⟨w.heap.size, 2, none⟩ = false ∧ w1.frozen? ⟨w.heap.size, 3, none⟩ = false) ∧ w.heap.size < w1.heap.size ∧ Below w.heap.size w w1 := by
  have hB : Blk w1 w.heap.size t #[.int .i64 0, .int .u64 0, .slice none 0 0, .slice none 0 0] := (Blk.new w t _).next hb
  have hs := hb.size
  simp at hs
  exact ⟨⟨by simpa using hB.cell 0, by simpa using hB.cell 1, by simpa using hB.cell 2, by simpa using hB.cell 3⟩, ⟨hB.frozen 0, hB.frozen 1, hB.frozen 2, hB.frozen 3⟩, by omega, ((Below.refl _ _).alloc (Nat.le_refl _) _).trans (hb.mono (by simp))⟩
theorem below_set4 {B b : Nat} {a w : World} (h : Below B a w) (hb : B ≤ b) (x y z u : Value) :
    Below B a ((((w.setCell ⟨b, 0, none⟩ x).setCell ⟨b, 1, none⟩ y).setCell ⟨b, 2, none⟩ z).setCell ⟨b, 3, none⟩ u) := (below_set3 h hb x y z).setCell (p := ⟨b, 3, none⟩) hb _

theorem num_any (n : Int) (w : World) (h0 : 0 ≤ n) (h1 : n ≤ 18446744073709551615) :
    Calls Tryd.prog 48 #[.int .u64 n] w fun e w' => e = .returned (.agg #[.int .i64 0, .int .u64 n, .slice none 0 0, .slice none 0 0]) ∧ Below w.heap.size w w' := by
  go_enter Tryd.func48, Tryd.ntmps48
  go_wp2_with fail
  exact bodyPost_ret (v := .agg #[.int .i64 0, .int .u64 n, .slice none 0 0, .slice none 0 0]) (by simp [results, Tryd.results48, go_sem]) rfl ⟨rfl, (Below.refl _ _).alloc (Nat.le_refl _) _⟩

theorem bytes_any (A : Option Addr) (B c : Nat) (xs : List Int) (w : World) (hs : Lst w B A (u8s xs)) (hB : B ≤ w.heap.size) (hl : xs.length ≤ 100000000000000) :
    Calls Tryd.prog 91 #[.slice A xs.length c] w fun e w' =>
      ∃ A', e = .returned (.agg #[.int .i64 2, .int .u64 0, .slice A' xs.length xs.length, .slice none 0 0]) ∧ Hid (Seg w' w.heap.size w'.heap.size A' (u8s xs)) ∧ Below w.heap.size w w' := by
  have HS := Lib.hid (hs.below' ((Below.refl w.heap.size w).alloc (Nat.le_refl _) (.cells #[.int .i64 0, .int .u64 0, .slice none 0 0, .slice none 0 0] 30)) hB)
  clear hs
  go_enter Tryd.func91, Tryd.ntmps91
  go_wp2_with fail
  refine (copyBytes_any A B c xs _ HS.out (by simp; omega) hl).mono ?_
  rintro e w1 ⟨A1, rfl, HS1, hb1⟩
  obtain ⟨⟨c0, c1, c2, c3⟩, ⟨f0, f1, f2, f3⟩, hz, hb⟩ := zero_item hb1
  have HB := Lib.hid hb
  clear hb hb1
  go_wp2_with fail
  exact bodyPost_ret (v := .agg #[.int .i64 2, .int .u64 0, .slice A1 xs.length xs.length, .slice none 0 0]) (by simp [results, Tryd.results91, go_sem, c0, c1, c2, c3, f0, f1, f2, f3]) rfl
    ⟨A1, rfl, Lib.hid (by
      have h := HS1.out
      rw [World.size_alloc] at h
      exact (h.set4 (.inl (Nat.lt_succ_self _)) _ _ _ _).more (by omega) (by simp [World.setCell])), below_set4 HB.out (Nat.le_refl _) _ _ _ _⟩

/-- A text's bytes as numbers. -/
def nums (s : ByteArray) : List Int := s.data.toList.map fun b => (b.toNat : Int)
theorem nums_length (s : ByteArray) : (nums s).length = s.size := by simp [nums]
theorem nums_bts (s : ByteArray) : St.bts (nums s) := by
  intro x hx
  simp only [nums, List.mem_map] at hx
  obtain ⟨b, _, rfl⟩ := hx
  have := b.toNat_lt
  omega
theorem nums_str (s : ByteArray) : strOfNums (nums s) = s := by
  have h : (strOfNums (nums s)).data.toList = s.data.toList := by
    rw [strOfNums_data]
    unfold nums
    rw [List.map_map]
    conv => rhs; rw [← List.map_id s.data.toList]
    exact List.map_congr_left fun b _ => by simp
  cases s with
  | mk d =>
    cases hs : strOfNums (nums ⟨d⟩) with
    | mk d' =>
      rw [hs] at h
      congr 1
      exact Array.toList_inj.1 h
theorem below_conv {B : Nat} {a w : World} (h : Below B a w) (hB : B ≤ w.heap.size) (e : TypeId) (s : ByteArray) : Below B a (Lib.bytesWorld w e s) :=
  h.trans ⟨rfl, rfl, rfl, by rw [Lib.bytesWorld_size]; omega, fun k hk => Lib.bytesWorld_at_old w e s k (by omega)⟩
theorem conv_lst (w : World) (e : TypeId) (s : ByteArray) : Lst (Lib.bytesWorld w e s) (w.heap.size + 1) (some ⟨w.heap.size, 0, none⟩) (u8s (nums s)) := by
  refine .inr ⟨w.heap.size, 0, rfl, by omega, fun j hj => ?_⟩
  have hj' : j < s.size := by simpa [nums] using hj
  rw [Nat.zero_add, Lib.bytesWorld_cell w e s j hj']
  simp [u8s, nums, List.getD, hj']

theorem text_any (s : ByteArray) (w : World) (hl : s.size ≤ 100000000000000) :
    Calls Tryd.prog 79 #[.string s] w fun e w' =>
      ∃ A', e = .returned (.agg #[.int .i64 3, .int .u64 0, .slice A' (nums s).length (nums s).length, .slice none 0 0]) ∧ Hid (Seg w' w.heap.size w'.heap.size A' (u8s (nums s))) ∧ Below w.heap.size w w' := by
  have hconv := Lib.run_convert_string_bytes (P := Tryd.prog) (w.alloc (.cells #[.int .i64 0, .int .u64 0, .slice none 0 0, .slice none 0 0] 30)) 9 27 5 s Tryd.underlying9 Tryd.underlying27 Tryd.underlying5
  have hs0 := conv_lst (w.alloc (.cells #[.int .i64 0, .int .u64 0, .slice none 0 0, .slice none 0 0] 30)) 5 s
  have HW := Lib.hid (below_conv (Below.refl (w.heap.size + 1) (w.alloc (.cells #[.int .i64 0, .int .u64 0, .slice none 0 0, .slice none 0 0] 30))) (by simp) 5 s)
  have hz := Lib.bytesWorld_size (w.alloc (.cells #[.int .i64 0, .int .u64 0, .slice none 0 0, .slice none 0 0] 30)) 5 s
  have hn := nums_length s
  simp only [World.size_alloc] at hconv hz hs0
  have HZ := Lib.hid hz
  have HS := Lib.hid hs0
  clear hs0
  generalize grownCap (w.alloc (.cells #[.int .i64 0, .int .u64 0, .slice none 0 0, .slice none 0 0] 30)) s.size 0 5 = cap at *
  generalize Lib.bytesWorld (w.alloc (.cells #[.int .i64 0, .int .u64 0, .slice none 0 0, .slice none 0 0] 30)) 5 s = w0 at *
  rw [← hn] at hconv hl
  have HN := Lib.hid hn
  clear hz hn
  go_enter Tryd.func79, Tryd.ntmps79
  go_wp2_with fail
  have hz0 := HZ.out
  refine (copyBytes_any _ (w.heap.size + 1 + 1) cap (nums s) w0 HS.out (by omega) hl).mono ?_
  rintro e w1 ⟨A1, rfl, HS1, hb1⟩
  have hz1 := hb1.size
  obtain ⟨⟨c0, c1, c2, c3⟩, ⟨f0, f1, f2, f3⟩, hz, hb⟩ := zero_item (w := w) (w1 := w1) (t := 30) (by
    have := HW.out.trans (hb1.mono (by omega))
    simpa using this)
  have HB := Lib.hid hb
  clear hb hb1 hconv
  go_wp2_with fail
  exact bodyPost_ret (v := .agg #[.int .i64 3, .int .u64 0, .slice A1 (nums s).length (nums s).length, .slice none 0 0]) (by simp [results, Tryd.results79, go_sem, c0, c1, c2, c3, f0, f1, f2, f3]) rfl
    ⟨A1, rfl, Lib.hid (by
      have h := HS1.out
      rw [hz0] at h
      exact (h.set4 (.inl (by omega)) _ _ _ _).more (by omega) (by simp [World.setCell])), below_set4 HB.out (Nat.le_refl _) _ _ _ _⟩
end Go.Proofs.YtbgcbcnidjlhnaaDoor.CbCopy
