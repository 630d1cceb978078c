/- What a counter answers: its long sum, and how often it was asked. -/
import Derived.Test.YtgjihjijlhdjdaaCtr
namespace Go.Proofs.Ytgjihjijlhdjdaa.Ctr
open Go.RowKit Wd SumW

/-- A counter that may be asked. -/
def Ready (w : World) (g : Nat) (asked : Int) : Prop := ∃ cs d k, Blk w g 42 cs ∧ Cs cs 0 d asked k ∧ ((d = 0 ∧ k = 0) ∨ (d = 1 ∧ k = 256))

theorem Ready.alloc {w : World} {g : Nat} {asked : Int} (h : Ready w g asked) (o : Obj) : Ready (w.alloc o) g asked := by
  obtain ⟨cs, d, k, hb, hc, hd⟩ := h
  exact ⟨cs, d, k, hb.alloc o, hc, hd⟩
theorem Ready.next {w w' : World} {g : Nat} {asked : Int} (h : Ready w g asked) (hb : Below w.heap.size w w') : Ready w' g asked := by
  obtain ⟨cs, d, k, h1, hc, hd⟩ := h
  exact ⟨cs, d, k, h1.next hb, hc, hd⟩
theorem Ready.far {w w' : World} {g h : Nat} {asked : Int} (hr : Ready w g asked) (hb : w.grownBy w' (some h)) (hne : g ≠ h) : Ready w' g asked := by
  obtain ⟨cs, d, k, h1, hc, hd⟩ := hr
  exact ⟨cs, d, k, (hb.block g h1.lt (fun e => hne (by injection e))).trans h1, hc, hd⟩
theorem Ready.lt {w : World} {g : Nat} {asked : Int} (hr : Ready w g asked) : g < w.heap.size := by
  obtain ⟨cs, d, k, h1, _⟩ := hr
  exact h1.lt
theorem add_any (a : Addr) (x : Int) (w : World) (hc : w.cell? a = some (.int .i64 x)) (hz : w.frozen? a = false) (h0 : 0 ≤ x) (h1 : x < 1000000) :
    Calls Try.prog 27 #[.pointer (some a), .int .i64 1] w fun e w' => e = .returned (.int .i64 (x + 1)) ∧ w' = w.setCell a (.int .i64 (x + 1)) := by
  have hadd := run_call_add (P := Try.prog) Try.func41 (by kernel_rfl) (by kernel_rfl) (by kernel_rfl) .i64 (by kernel_rfl) (y := 1) (s := x + 1) hc hz (by simp [go_sem, IntKind.wrap_i64]; omega)
  go_enter Try.func27, Try.ntmps27
  go_wp2_with fail
  go_ret
  exact ⟨rfl, rfl⟩

theorem load64_any (a : Addr) (x : Int) (w : World) (hc : w.cell? a = some (.int .i64 x)) :
    Calls Try.prog 33 #[.pointer (some a)] w fun e w' => e = .returned (.int .i64 x) ∧ w = w' := by
  have hl := run_call_load (P := Try.prog) Try.func44 (by kernel_rfl) (by kernel_rfl) (by kernel_rfl) .i64 (by kernel_rfl) hc
  go_enter Try.func33, Try.ntmps33
  go_wp2_with fail
  go_ret
  exact ⟨rfl, rfl⟩

set_option maxRecDepth 100000 in
theorem asked_any (g : Nat) (asked : Int) (w : World) (h : Ready w g asked) :
    Calls Try.prog 17 #[.pointer (some ⟨g, 0, none⟩)] w fun e w' => e = .returned (.int .i64 asked) ∧ w = w' := by
  obtain ⟨cs, d, k, hb, hc, _⟩ := h
  have c0 : w.cell? ⟨g, 259, none⟩ = some (.int .i64 asked) := by rw [hb.cell]; exact hc.2.2.2.1
  have HL := Lib.hid (load64_any _ _ _ c0)
  clear hb hc c0
  go_enter Try.func17, Try.ntmps17
  go_wp2_with fail
  refine HL.out.mono ?_
  rintro e w1 ⟨rfl, rfl⟩
  go_wp2_with fail
  go_ret
  exact ⟨rfl, rfl⟩

theorem asked_nil (w : World) : Calls Try.prog 17 #[.pointer none] w fun e w' => e = .returned (.int .i64 0) ∧ w = w' := by
  go_enter Try.func17, Try.ntmps17
  go_wp2_with fail
  go_ret
  exact ⟨rfl, rfl⟩

theorem long_nil (A : Option Addr) (B c : Nat) (xs : List Int) (w : World) (hs : Lst w B A (u8s xs)) (hx : St.bts xs) (hl : xs.length ≤ maxLen) :
    Calls Try.prog 12 #[.pointer none, .slice A xs.length c] w fun e w' => e = .returned (.int .u32 (SumP.long (nb xs) : Nat)) ∧ w = w' := by
  have HL := Lib.hid (SumW.long_any A B c xs w hs hx hl)
  clear hs hx
  go_enter Try.func12, Try.ntmps12
  go_wp2_with fail
  refine HL.out.mono ?_
  rintro e w1 ⟨rfl, rfl⟩
  go_wp2_with fail
  go_ret
  exact ⟨rfl, rfl⟩

set_option maxRecDepth 100000 in
set_option maxHeartbeats 1600000 in
theorem long_any (g : Nat) (asked : Int) (A : Option Addr) (B c : Nat) (xs : List Int) (w : World) (h : Ready w g asked) (h0 : 0 ≤ asked) (h1 : asked < 1000000)
    (hs : ∀ W, w.grownBy W (some g) → Lst W B A (u8s xs)) (hx : St.bts xs) (hl : xs.length ≤ maxLen) :
    Calls Try.prog 12 #[.pointer (some ⟨g, 0, none⟩), .slice A xs.length c] w fun e w' =>
      e = .returned (.int .u32 (SumP.long (nb xs) : Nat)) ∧ Ready w' g (asked + 1) ∧ w.grownBy w' (some g) := by
  unfold maxLen at hl
  obtain ⟨cs, d, k, hb, hc, hdk⟩ := h
  have c0 : w.cell? ⟨g, 259, none⟩ = some (.int .i64 asked) := by rw [hb.cell]; exact hc.2.2.2.1
  have HA := Lib.hid (add_any ⟨g, 259, none⟩ asked w c0 (hb.frozen 259) h0 h1)
  have hb1 := hb.set_ 259 (.int .i64 (asked + 1))
  have hc1 := hc.put.2.2 (asked + 1)
  have hg1 := only_set (World.grownBy.refl w (some g)) (p := ⟨g, 259, none⟩) rfl (.int .i64 (asked + 1))
  -- the table is there behind Do, whether it was made or not
  have hdo : Calls Try.prog 28 #[.pointer (some ⟨g, 0, none⟩), fillOf g] (w.setCell ⟨g, 259, none⟩ (.int .i64 (asked + 1))) fun e w' =>
      e = .returned (.tuple #[]) ∧ ∃ cs', Blk w' g 42 cs' ∧ Cs cs' 0 1 (asked + 1) 256 ∧ w.grownBy w' (some g) := by
    rcases hdk with ⟨rfl, rfl⟩ | ⟨rfl, rfl⟩
    · refine (do_first g _ (asked + 1) _ hb1 hc1).mono ?_
      rintro e w' ⟨he, cs', hb', hc', hg'⟩
      exact ⟨he, cs', hb', hc', only_trans hg1 hg'⟩
    · refine (do_done g _ _ (by rw [hb1.cell]; exact hc1.2.1)).mono ?_
      rintro e w' ⟨he, rfl⟩
      exact ⟨he, _, hb1, hc1, hg1⟩
  have HD := Lib.hid hdo
  have HS := Lib.hid hs
  have HX := Lib.hid hx
  have hmf : ∀ (fn : Fn) (first cap : Array Value) (w : World), (Instr.makeFunc fn first cap).run Try.prog w = .ok (.func fn first cap) w := fun _ _ _ _ => rfl
  clear hb hc c0 hb1 hc1 hg1 hdo hs hx hdk
  go_enter Try.func12, Try.ntmps12
  go_wp2_with fail
  refine HA.out.mono ?_
  rintro e w1 ⟨rfl, rfl⟩
  go_wp2_with fail
  refine HD.out.mono ?_
  rintro e w2 ⟨rfl, cs2, hb2, hc2, hg2⟩
  have HB2 := Lib.hid hb2
  have HC2 := Lib.hid hc2
  have HG2 := Lib.hid hg2
  have HL2 := Lib.hid (HS.out w2 hg2)
  clear hb2 hc2 hg2 hmf
  go_wp2_with fail
  go_loop [5, 24] (fun v i => ∃ k t : Nat, k ≤ xs.length ∧ i = .int .i64 k ∧ v = .int .u32 t ∧ t < 4294967296 ∧ Hid (t = SumP.crc SumP.PL 4294967295 (nb (xs.take k)))) (fun _ i => xs.length - (intOf i).toNat)
  case atStart => exact ⟨0, 4294967295, by omega, rfl, rfl, by omega, rfl⟩
  case round =>
    obtain ⟨k, t, hk, rfl, rfl, ht, hH⟩ := hrel
    by_cases hlt : k < xs.length
    · obtain ⟨b, o, rfl, hb, hcc⟩ := HL2.out.bytes hlt
      have hck := hcc k hlt
      have hyb : 0 ≤ xs.getD k 0 ∧ xs.getD k 0 ≤ 255 := HX.out _ (by simp [List.getD, List.getElem?_eq_getElem hlt])
      have HT := Lib.hid (take_snoc xs k hlt)
      clear hcc
      generalize hy : xs.getD k 0 = y at *
      clear hy
      have hq8 : (t % 256) ^^^ y.toNat < 256 := Nat.xor_lt_two_pow (n := 8) (by omega) (by omega)
      have hxx : bits .xor .u8 ((t : Int) % 256) y = (((t % 256) ^^^ y.toNat : Nat) : Int) := by
        obtain ⟨b, rfl⟩ := Int.eq_ofNat_of_zero_le hyb.1
        exact u8_xor_nat (t % 256) b (by omega) (by omega)
      have hfin : t / 256 ^^^ SumP.steps SumP.PL 8 ((t % 256) ^^^ y.toNat) = SumP.crc SumP.PL 4294967295 (nb (xs.take (k + 1))) := by
        rw [HT.out, nb_snoc, SumP.crc_snoc, ← hH.out, SumP.byte_table]
      have HF := Lib.hid hfin
      have htab : w2.cell? ⟨g, 3 + ((t % 256) ^^^ y.toNat), none⟩ = some (.int .u32 (SumP.steps SumP.PL 8 ((t % 256) ^^^ y.toNat) : Nat)) := by rw [HB2.out.cell]; exact HC2.out.2.2.2.2.2 _ hq8
      have hsl := SumP.steps_lt SumP.PL 32 (by decide) 8 ((t % 256) ^^^ y.toNat) (by omega)
      clear hfin
      generalize (t % 256) ^^^ y.toNat = q at *
      generalize SumP.steps SumP.PL 8 q = r at *
      have hx2 : bits .xor .u32 ((t : Int) / 256) (r : Int) = ((t / 256 ^^^ r : Nat) : Int) := u32_xor_nat (t / 256) r (by omega) hsl
      have hlt3 : t / 256 ^^^ r < 4294967296 := Nat.xor_lt_two_pow (n := 32) (by omega) hsl
      have i0 : (0 : Int) ≤ (q : Int) := by omega
      have i1 : (q : Int) < 256 := by omega
      go_wp2_with fail
      exact ⟨⟨k + 1, t / 256 ^^^ r, hlt, by go_num, rfl, hlt3, HF.out⟩, by simp [intOf]; omega⟩
    · obtain rfl : k = xs.length := by omega
      have hfin := hH.out
      rw [List.take_length] at hfin
      have HF := Lib.hid hfin
      clear hfin
      go_wp2_with fail
      go_ret
      exact ⟨ret_int (by rw [Bt.u32_turn t ht, HF.out]; rfl), ⟨cs2, 1, 256, HB2.out, HC2.out, .inr ⟨rfl, rfl⟩⟩, HG2.out⟩
end Go.Proofs.Ytgjihjijlhdjdaa.Ctr
