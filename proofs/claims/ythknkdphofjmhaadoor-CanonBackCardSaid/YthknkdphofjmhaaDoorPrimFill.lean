/- A sum is written into its place: the walk of fill. -/
import Derived.Test.YthknkdphofjmhaaDoorZga
import Derived.Test.YthknkdphofjmhaaDoorZg8
import Derived.Deep.LoopGhost
namespace Go.Proofs.YthknkdphofjmhaaDoor.Prim
open Go.RowKit Wd Cb Eid

theorem be_at : ∀ (m : Nat) (n : Int) (j : Nat), j < m → (HeadP.be n m)[j]? = some (n / 2 ^ (8 * (m - 1 - j)) % 256)
  | 0, _, _, h => absurd h (Nat.not_lt_zero _)
  | m + 1, n, 0, _ => by simp [HeadP.be]
  | m + 1, n, j + 1, h => by
    show (HeadP.be n m)[j]? = _
    rw [be_at m n j (by omega), show m - 1 - j = m + 1 - 1 - (j + 1) by omega]
/-- A block whose last k of n bytes are a sum's. -/
def Put (w : World) (g : Nat) (t : TypeId) (cs : Array Value) (n k : Nat) (S : Int) : Prop :=
  ∃ cs', Blk w g t cs' ∧ cs'.size = cs.size ∧ (∀ j, n ≤ j → cs'[j]? = cs[j]?) ∧ ∀ j, n - k ≤ j → j < n → cs'[j]? = some (.int .u8 (S / 2 ^ (8 * (n - 1 - j)) % 256))
theorem Put.set_ {w : World} {g n k : Nat} {t : TypeId} {cs : Array Value} {S : Int} (h : Put w g t cs n k S) (hn : n ≤ cs.size) (hk : k < n) : Put (w.setCell ⟨g, n - 1 - k, none⟩ (.int .u8 (S / 2 ^ (8 * k) % 256))) g t cs n (k + 1) S := by
  obtain ⟨cs', h1, h2, h3, h4⟩ := h
  refine ⟨_, h1.set_ (n - 1 - k) _, by simp [h2], fun j hj => ?_, fun j hj hj2 => ?_⟩
  · rw [Array.getElem?_setIfInBounds_ne (by omega)]
    exact h3 j hj
  · by_cases e : n - 1 - k = j
    · subst e
      rw [Array.getElem?_setIfInBounds_self_of_lt (by omega), show n - 1 - (n - 1 - k) = k by omega]
    · rw [Array.getElem?_setIfInBounds_ne e]
      exact h4 j (by omega) hj2
theorem Put.cell {w : World} {g n k : Nat} {t : TypeId} {cs : Array Value} {S : Int} (h : Put w g t cs n k S) (hn : n ≤ cs.size) (hk : k < n) : (∃ v, w.cell? ⟨g, n - 1 - k, none⟩ = some v) ∧ w.frozen? ⟨g, n - 1 - k, none⟩ = false := by
  obtain ⟨cs', h1, h2, h3, h4⟩ := h
  exact ⟨⟨cs'[n - 1 - k]'(by omega), by rw [h1.cell]; exact Array.getElem?_eq_getElem _⟩, h1.frozen _⟩

theorem short_lt (xs : List Int) : SumP.short (SumW.nb xs) < 65536 := by
  unfold SumP.short
  omega
theorem long_lt (xs : List Int) : SumP.long (SumW.nb xs) < 4294967296 := by
  unfold SumP.long
  omega

set_option maxRecDepth 100000 in
set_option maxHeartbeats 4000000 in
theorem fill_any (q g cp c B : Nat) (t : TypeId) (cs : Array Value) (A : Option Addr) (xs : List Int) (w : World) (hq : q = 1 ∨ q = 2) (hb : Blk w g t cs) (hn : 2 * q ≤ cs.size) (hcp : 2 * q ≤ cp) (hm : cp ≤ maxLen)
    (hs : Lst w B A (u8s xs)) (hx : St.bts xs) (hl : xs.length ≤ maxLen) (hS : Sz w) :
    Calls Tryd.prog 34 #[.slice (some ⟨g, 0, none⟩) (2 * q : Nat) cp, .slice A xs.length c] w fun e w' => e = .returned (.tuple #[]) ∧ Put w' g t cs (2 * q) (2 * q) (sumOf q xs) ∧ w.grownBy w' (some g) := by
  have CL := Lib.hid (SumW.long_any A B c xs w hs hx hl)
  have CSh := Lib.hid (SumW.short_any A B c xs w hs hx hl)
  have HP0 : Hid (∀ S, Put w g t cs (2 * q) 0 S) := Lib.hid (fun S => ⟨cs, hb, rfl, fun _ _ => rfl, fun j h1 h2 => by omega⟩)
  obtain ⟨_, s0, s1, s2⟩ := hS
  clear hb
  rcases hq with rfl | rfl
  · go_enter Tryd.func34, Tryd.ntmps34
    have HSX := Lib.hid (short_lt xs)
    go_wp2_with fail
    refine CL.out.mono ?_
    rintro e w1 ⟨rfl, rfl⟩
    go_wp2_with fail
    refine CSh.out.mono ?_
    rintro e w1 ⟨rfl, rfl⟩
    go_wp2_with fail
    have HG0 : Hid (w.grownBy w (some g)) := Lib.hid (only_below (Below.refl w.heap.size w))
    have HPS := Lib.hid (HP0.out (SumP.short (SumW.nb xs) : Nat))
    have HSO := Lib.hid (show ((sumOf 1 xs : Nat) : Int) = ((SumP.short (SumW.nb xs) : Nat) : Int) from rfl)
    have hsz : ((SumP.short (SumW.nb xs) : Nat) : Int) < 65536 ∧ (0 : Int) ≤ ((SumP.short (SumW.nb xs) : Nat) : Int) := by
      have := HSX.out
      omega
    obtain ⟨hs1, hs0⟩ := hsz
    clear CL CSh HP0 s0 s1 s2 hs hx hl HSX
    generalize ((SumP.short (SumW.nb xs) : Nat) : Int) = S at *
    go_loopw [18] (fun i wr => ∃ (k : Nat), k ≤ 2 ∧ i = .int .i64 k ∧ Hid (Put wr g t cs (2 * 1) k S) ∧ Hid (w.grownBy wr (some g))) (fun i _ => 2 - (intOf i).toNat)
    case atStart => exact ⟨0, by omega, rfl, HPS, HG0⟩
    case round =>
      obtain ⟨k, hk, rfl, HP, HG⟩ := hrel
      clear HPS HG0
      rcases (show k = 0 ∨ k = 1 ∨ k = 2 by omega) with rfl | rfl | rfl
      · obtain ⟨⟨v, c0⟩, f0⟩ := HP.out.cell hn (by omega)
        go_wp2_with fail
        have hp := HP.out.set_ hn (by omega)
        refine ⟨⟨1, by omega, rfl, Lib.hid ?_, Lib.hid (only_set HG.out rfl _)⟩, by simp [intOf]⟩
        first | exact hp | simpa using hp | (have e : S / 256 % 256 = S % 4294967296 / 256 := (by omega); simp at hp ⊢; rw [e] at hp; exact hp)
      · obtain ⟨⟨v, c0⟩, f0⟩ := HP.out.cell hn (by omega)
        go_wp2_with fail
        have hp := HP.out.set_ hn (by omega)
        refine ⟨⟨2, by omega, rfl, Lib.hid ?_, Lib.hid (only_set HG.out rfl _)⟩, by simp [intOf]⟩
        first | exact hp | simpa using hp | (have e : S / 256 % 256 = S % 4294967296 / 256 := (by omega); simp at hp ⊢; rw [e] at hp; exact hp)
      · go_wp2_with fail
        refine bodyPost_end (v := .tuple #[]) (by simp [results, Tryd.results34, go_sem]) rfl ⟨rfl, ?_, HG.out⟩
        rw [HSO.out]
        exact HP.out
  · go_enter Tryd.func34, Tryd.ntmps34
    have HSX := Lib.hid (long_lt xs)
    go_wp2_with fail
    refine CL.out.mono ?_
    rintro e w1 ⟨rfl, rfl⟩
    go_wp2_with fail
    have HG0 : Hid (w.grownBy w (some g)) := Lib.hid (only_below (Below.refl w.heap.size w))
    have HPS := Lib.hid (HP0.out (SumP.long (SumW.nb xs) : Nat))
    have HSO := Lib.hid (show ((sumOf 2 xs : Nat) : Int) = ((SumP.long (SumW.nb xs) : Nat) : Int) from rfl)
    have hsz : ((SumP.long (SumW.nb xs) : Nat) : Int) < 4294967296 ∧ (0 : Int) ≤ ((SumP.long (SumW.nb xs) : Nat) : Int) := by
      have := HSX.out
      omega
    obtain ⟨hs1, hs0⟩ := hsz
    clear CL CSh HP0 s0 s1 s2 hs hx hl HSX
    generalize ((SumP.long (SumW.nb xs) : Nat) : Int) = S at *
    go_loopw [18] (fun i wr => ∃ (k : Nat), k ≤ 4 ∧ i = .int .i64 k ∧ Hid (Put wr g t cs (2 * 2) k S) ∧ Hid (w.grownBy wr (some g))) (fun i _ => 4 - (intOf i).toNat)
    case atStart => exact ⟨0, by omega, rfl, HPS, HG0⟩
    case round =>
      obtain ⟨k, hk, rfl, HP, HG⟩ := hrel
      clear HPS HG0
      rcases (show k = 0 ∨ k = 1 ∨ k = 2 ∨ k = 3 ∨ k = 4 by omega) with rfl | rfl | rfl | rfl | rfl
      · obtain ⟨⟨v, c0⟩, f0⟩ := HP.out.cell hn (by omega)
        go_wp2_with fail
        have hp := HP.out.set_ hn (by omega)
        refine ⟨⟨1, by omega, rfl, Lib.hid ?_, Lib.hid (only_set HG.out rfl _)⟩, by simp [intOf]⟩
        first | exact hp | simpa using hp | (have e : S / 16777216 % 256 = S / 16777216 := (by omega); simp at hp ⊢; rw [e] at hp; exact hp)
      · obtain ⟨⟨v, c0⟩, f0⟩ := HP.out.cell hn (by omega)
        go_wp2_with fail
        have hp := HP.out.set_ hn (by omega)
        refine ⟨⟨2, by omega, rfl, Lib.hid ?_, Lib.hid (only_set HG.out rfl _)⟩, by simp [intOf]⟩
        first | exact hp | simpa using hp | (have e : S / 16777216 % 256 = S / 16777216 := (by omega); simp at hp ⊢; rw [e] at hp; exact hp)
      · obtain ⟨⟨v, c0⟩, f0⟩ := HP.out.cell hn (by omega)
        go_wp2_with fail
        have hp := HP.out.set_ hn (by omega)
        refine ⟨⟨3, by omega, rfl, Lib.hid ?_, Lib.hid (only_set HG.out rfl _)⟩, by simp [intOf]⟩
        first | exact hp | simpa using hp | (have e : S / 16777216 % 256 = S / 16777216 := (by omega); simp at hp ⊢; rw [e] at hp; exact hp)
      · obtain ⟨⟨v, c0⟩, f0⟩ := HP.out.cell hn (by omega)
        go_wp2_with fail
        have hp := HP.out.set_ hn (by omega)
        refine ⟨⟨4, by omega, rfl, Lib.hid ?_, Lib.hid (only_set HG.out rfl _)⟩, by simp [intOf]⟩
        first | exact hp | simpa using hp | (have e : S / 16777216 % 256 = S / 16777216 := (by omega); simp at hp ⊢; rw [e] at hp; exact hp)
      · go_wp2_with fail
        refine bodyPost_end (v := .tuple #[]) (by simp [results, Tryd.results34, go_sem]) rfl ⟨rfl, ?_, HG.out⟩
        rw [HSO.out]
        exact HP.out
end Go.Proofs.YthknkdphofjmhaaDoor.Prim
