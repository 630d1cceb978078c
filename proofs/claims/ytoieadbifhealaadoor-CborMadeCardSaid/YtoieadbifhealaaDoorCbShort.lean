/- The contract of cbor.Shortest. -/
import Derived.Test.YtoieadbifhealaaDoorCbRead
import Derived.Test.YtoieadbifhealaaDoorCbSame
import Derived.Test.YtoieadbifhealaaDoorReadB
namespace Go.Proofs.YtoieadbifhealaaDoor.CbShort
open Go.RowKit Wd Cb CbCopy CbRight CbWrite CbHead CbPiece CbBytes U8V CbList CbOpen CbMany CbItem CbBody CbRead CbSame
attribute [local go_sem ↓] Go.wp_at_zero Go.wp_at_succ

mutual
theorem Rep.sane {w : World} {lo hi : Nat} : ∀ {x : Itm} {cs : List Value}, Rep w lo hi x cs → sane x
  | .mk k n b l, cs, h => by
    unfold Rep at h
    obtain ⟨A, c, A', c', vs, h1, h2, h3, h4, h5, h6, h7, h8, h9, h10, h11⟩ := h
    exact ⟨h3, h4, Reps.sane h11⟩
theorem Reps.sane {w : World} {lo hi : Nat} : ∀ {l : List Itm} {vs : List Value}, Reps w lo hi l vs → sanes l
  | [], vs, h => trivial
  | x :: l, vs, h => by
    unfold Reps at h
    obtain ⟨c, r, h1, h2, h3⟩ := h
    exact ⟨Rep.sane h2, Reps.sane h3⟩
end
theorem _root_.Go.Proofs.YtoieadbifhealaaDoor.Cb.ItemV.sane {w : World} {lo hi : Nat} {x : Itm} {v : Value} (h : ItemV w lo hi x v) : sane x := let ⟨_, _, r⟩ := h; Rep.sane r

mutual
theorem enc_bts : ∀ x : Itm, fine x = true → sane x → (enc x).length ≤ 18446744073709551615 → St.bts (enc x)
  | .mk k n b l, hf, hs, hm => by
    have hlen := enc_len (.mk k n b l)
    obtain ⟨hn, hb, hsl⟩ := hs
    simp only [Itm.kind, Itm.bs, Itm.sub] at hlen
    have h1 := encs_long l
    have h2 := hl_pos k (cn (.mk k n b l)) false
    have hcn : 0 ≤ cn (.mk k n b l) := by
      rcases fine_parts k n b l hf with ⟨rfl, _⟩ | ⟨rfl, _⟩ | ⟨rfl, _⟩ | ⟨rfl, _⟩
      · exact hn.1
      · have e : cn (.mk 2 n b l) = b.length := rfl
        omega
      · have e : cn (.mk 3 n b l) = b.length := rfl
        omega
      · have e : cn (.mk 4 n b l) = l.length := rfl
        omega
    have hright : HeadP.right k (cn (.mk k n b l)) false = true := by
      rcases fine_parts k n b l hf with ⟨rfl, _⟩ | ⟨rfl, _⟩ | ⟨rfl, _⟩ | ⟨rfl, _⟩ <;> simp [HeadP.right]
    have hfl : fines l = true := by
      rw [fine_sub] at hf
      exact (Bool.and_eq_true_iff.1 hf).2
    have hbl := encs_bts l hfl hsl (by omega)
    rw [enc_sub]
    intro y hy
    rcases List.mem_append.1 hy with hy | hy
    · rcases List.mem_append.1 hy with hy | hy
      · exact HeadP.bytes_bound _ _ _ hright hcn y hy
      · exact hb y hy
    · exact hbl y hy
theorem encs_bts : ∀ l : List Itm, fines l = true → sanes l → (encs l).length ≤ 18446744073709551615 → St.bts (encs l)
  | [], _, _, _ => by intro x hx; cases hx
  | x :: l, hf, hs, hm => by
    simp only [fines, Bool.and_eq_true] at hf
    simp only [encs, List.length_append] at hm
    have h1 := enc_bts x hf.1 hs.1 (by omega)
    have h2 := encs_bts l hf.2 hs.2 (by omega)
    intro y hy
    rcases List.mem_append.1 (show y ∈ enc x ++ encs l from hy) with hy | hy
    · exact h1 y hy
    · exact h2 y hy
end
theorem right_fine {x : Itm} (h : right x = true) : fine x = true := by
  unfold right at h
  exact (Bool.and_eq_true_iff.1 h).2

set_option maxHeartbeats 1000000 in
theorem shortest_any (A : Option Addr) (B c : Nat) (xs : List Int) (w : World) (hs : Lst w B A (u8s xs)) (hB : B ≤ w.heap.size) (hx : St.bts xs) (hc : xs.length ≤ c) (hm : c ≤ maxLen) (hl : xs.length ≤ 4294967295) (hT : Tabs w) :
    Calls Tryd.prog 22 #[.slice A xs.length c] w fun e w' => ∃ sh : Bool, e = .returned (.bool sh) ∧ Below w.heap.size w w' ∧ Hid ((∃ x p l, ReadR xs 0 (.ok x p l) ∧ sh = (xs == enc x)) ∨ ((∃ k, ReadR xs 0 (.err k)) ∧ sh = false)) := by
  have HS := Lib.hid hs
  have HT := Lib.hid hT
  clear hs hT
  go_enter Tryd.func22, Tryd.ntmps22
  go_wp2_with fail
  refine (read_any A B c xs 0 w HS.out hB hx hc hm (by omega) HT.out).mono ?_
  rintro e w1 ⟨r, hr, ho⟩
  cases r with
  | err k =>
    obtain ⟨rfl, HB1⟩ := ho
    have HC := Lib.hid hr
    have hk : (k != 0) = true := by simpa using read_err hr
    clear hr
    go_wp2_with fail
    go_ret
    exact ⟨false, rfl, HB1.out.alloc HB1.out.size _, Lib.hid (.inr ⟨⟨k, HC.out⟩, rfl⟩)⟩
  | ok x p l =>
    obtain ⟨v, rfl, HV, HB1⟩ := ho
    have HRD := Lib.hid hr
    obtain ⟨g1, g2, g3, g4, g5, g6⟩ := read_good hx hl hr
    have hel : (enc x).length ≤ 4294967295 := by omega
    have HEB := Lib.hid (enc_bts x (right_fine g1) g2 (by omega))
    have HR := Lib.hid g1
    have hs1 := HB1.out.size
    have hv := HV.out
    obtain ⟨A1, c1, A2, c2, rfl, _⟩ := hv.open_
    have hb1 := (Below.refl w1.heap.size w1).alloc (Nat.le_refl _) (.cells #[.int .i64 x.kind, .int .u64 x.num, .slice A1 x.bs.length c1, .slice A2 x.sub.length c2] 26)
    have hz1 : (w1.alloc (.cells #[.int .i64 x.kind, .int .u64 x.num, .slice A1 x.bs.length c1, .slice A2 x.sub.length c2] 26)).heap.size = w1.heap.size + 1 := World.size_alloc _ _
    have HV1 := Lib.hid ((hv.more (Nat.zero_le _) (Nat.le_refl _)).below hb1)
    have HB1a := Lib.hid (below_next HB1.out hs1 hb1)
    clear hr hv HV hb1 g1 g2 g3 g4 g5 g6
    go_wp2_with fail
    refine (write_yes x _ w1.heap.size _ HV1.out (by omega) (HT.out.below HB1a.out (Nat.le_refl _)) HR.out (by omega)).mono ?_
    rintro e w2 ⟨A3, rfl, HSG, hb2⟩
    have HB2 := Lib.hid (below_next HB1a.out HB1a.out.size hb2)
    clear hb2
    go_wp2_with fail
    refine (equal_any A A3 w2.heap.size c (enc x).length xs (enc x) w2 ((HS.out.below' HB2.out hB).more (by have := HB2.out.size; omega)) HSG.out.lst hx HEB.out).mono ?_
    rintro e w3 ⟨rfl, rfl⟩
    go_wp2_with fail
    go_ret
    exact ⟨_, rfl, HB2.out, Lib.hid (.inl ⟨x, p, l, HRD.out, rfl⟩)⟩
end Go.Proofs.YtoieadbifhealaaDoor.CbShort
