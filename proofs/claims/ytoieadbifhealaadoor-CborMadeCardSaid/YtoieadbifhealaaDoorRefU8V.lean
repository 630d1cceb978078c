/- The document's own Valid. -/
import Derived.Test.YtoieadbifhealaaDoorRefU8
namespace Go.Proofs.YtoieadbifhealaaDoor.RefU8V
open Go.RowKit Wd Cb U8V RefU8

theorem pt_le (l : List Int) (h : 0 < l.length) : U8.pt l ≤ l.length := by
  unfold U8.pt
  split
  · omega
  · split
    · omega
    · rename_i hb
      unfold U8.bad at hb
      omega

set_option maxHeartbeats 1000000 in
theorem valid_any (A : Option Addr) (B c : Nat) (l : List Int) (w : World) (hs : Lst w B A (u8s l)) (hb : St.bts l) (hc : l.length ≤ c) (hm : c ≤ maxLen) :
    Calls Tryd.prog 75 #[.slice A l.length c] w fun e w' => e = .returned (.bool (U8.utf8 l)) ∧ w = w' := by
  unfold maxLen at hm
  obtain ⟨ANS, hANS⟩ : ∃ ANS, U8.utf8 l = ANS := ⟨_, rfl⟩
  rw [hANS]
  have HS := Lib.hid hs
  have HX := Lib.hid hb
  have HA := Lib.hid hANS
  clear hs hb hANS
  go_enter Tryd.func75, Tryd.ntmps75
  go_wp2_with fail
  go_loopg [0] (l.length + 1) (fun gk s0 wx => w = wx ∧ ∃ (A' : Option Addr) (c' : Nat) (t : List Int), s0 = .slice A' t.length c' ∧ Hid (Lst w B A' (u8s t)) ∧ Hid (St.bts t) ∧ Hid (U8.utf8 t = ANS) ∧ t.length < gk ∧ t.length ≤ c' ∧ c' ≤ 9223372036854775807)
  case atStart => exact ⟨rfl, A, c, l, rfl, HS, HX, HA, by omega, hc, by omega⟩
  case round =>
    obtain ⟨rfl, A', c', t, rfl, HSt, HXt, HAt, hg, htc, hcm⟩ := hrel
    clear HS HX HA
    by_cases h0 : 0 < t.length
    · obtain ⟨g', rfl⟩ : ∃ g', gk = g' + 1 := ⟨gk - 1, by omega⟩
      have h0z : (0 : Int) < (t.length : Int) := by omega
      have htne : t ≠ [] := fun e => by subst e; simp at h0
      have hpl := pt_le t h0
      have hst := U8.utf8_step t htne
      have C1 := Lib.hid (point_any A' B c' t w HSt.out h0 (by omega) HXt.out)
      obtain ⟨b, o, rfl, _, _⟩ := HSt.out.bytes (k := 0) h0
      generalize hn : U8.pt t = n at *
      clear hn
      have HST := Lib.hid hst
      clear hst
      by_cases hz : n = 0
      · subst hz
        go_wp2_with (go_at_call 95; refine C1.out.mono ?_; rintro e w' ⟨rfl, rfl⟩)
        go_ret
        exact ⟨ret_bool (by rw [← HAt.out, HST.out]; simp), rfl⟩
      · have hzb : ((n : Int) == 0) = false := by simp; omega
        obtain ⟨t1, ht1⟩ : ∃ t1, t.drop n = t1 := ⟨_, rfl⟩
        have hl1 : t.length - n = t1.length := by rw [← ht1, List.length_drop]
        have HS1 : Hid (Lst w B (some ⟨b, o + n, none⟩) (u8s t1)) := Lib.hid (by rw [← ht1]; exact Lst.tail HSt.out n)
        have HX1 : Hid (St.bts t1) := Lib.hid (fun x hx => HXt.out x (by rw [← ht1] at hx; exact List.mem_of_mem_drop hx))
        have HA1 : Hid (U8.utf8 t1 = ANS) := Lib.hid (by rw [← ht1, ← HAt.out, HST.out, if_neg hz])
        clear ht1
        by_cases hcap : c' = n
        · have ht1 : t1 = [] := List.eq_nil_of_length_eq_zero (by omega)
          have HN := Lib.hid ht1
          clear ht1
          subst hcap
          go_wp2_with (go_at_call 95; refine C1.out.mono ?_; rintro e w' ⟨rfl, rfl⟩)
          go_roundg g'
          case rel => exact ⟨rfl, _, _, t1, rfl, Lib.hid (by rw [HN.out]; exact .nil), HX1, HA1, by omega, by omega, by omega⟩
          case measure => omega
        · go_wp2_with (go_at_call 95; refine C1.out.mono ?_; rintro e w' ⟨rfl, rfl⟩)
          go_roundg g'
          case rel => exact ⟨rfl, _, _, t1, rfl, HS1, HX1, HA1, by omega, by omega, by omega⟩
          case measure => omega
    · have hnil : t = [] := List.eq_nil_of_length_eq_zero (by omega)
      subst hnil
      go_wp2_with fail
      go_ret
      exact ⟨ret_bool (by rw [← HAt.out]; rfl), rfl⟩
end Go.Proofs.YtoieadbifhealaaDoor.RefU8V
