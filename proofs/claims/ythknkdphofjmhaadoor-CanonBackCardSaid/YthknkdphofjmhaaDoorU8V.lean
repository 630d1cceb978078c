/- The walk of unicode/utf8.Valid. -/
import Derived.Test.YthknkdphofjmhaaDoorZg5
import Derived.Deep.LoopGhost
import Derived.Deep.CutBlock
import Derived.Laws.BitsAllLaws
import Derived.Deep.Draws
namespace Go.Proofs.YthknkdphofjmhaaDoor.U8V
open Go.RowKit Wd Cb

theorem below_drewNv {B : Nat} {a w : World} (h : Below B a w) : ∀ q, Below B a (w.drewN q)
  | 0 => h
  | q + 1 => (below_drewNv h q).drew
set_option maxRecDepth 100000 in
theorem and7 : ∀ X : Fin 256, bits .and .u8 ((X.val : Nat) : Int) 7 = ((X.val % 8 : Nat) : Int) := by decide

/-- A tail of bytes. -/
theorem Lst.tail {w : World} {B b o : Nat} {t : List Int} (h : Lst w B (some ⟨b, o, none⟩) (u8s t)) (k : Nat) : Lst w B (some ⟨b, o + k, none⟩) (u8s (t.drop k)) := by
  rcases h with h | ⟨b', o', e, hb, hc⟩
  · refine .inl ?_
    have : t = [] := by simpa using h
    simp [this]
  · injection e with e
    injection e with e1 e2
    subst e1
    subst e2
    refine .inr ⟨b, o + k, rfl, hb, fun j hj => ?_⟩
    have hj' : j < t.length - k := by simpa using hj
    rw [Nat.add_assoc, hc (k + j) (by simp; omega)]
    simp [u8s, List.getElem?_drop]

set_option maxHeartbeats 4000000 in
set_option maxRecDepth 1000000 in
theorem valid_any (A : Option Addr) (B c : Nat) (l : List Int) (w : World) (hs : Lst w B A (u8s l)) (hB : B ≤ w.heap.size) (hb : St.bts l) (hc : l.length ≤ c) (hm : c ≤ maxLen) (hT : Lib.Utf8Tabs 1 2 w)
    (hG1 : 1 < w.heap.size) (hG2 : 2 < w.heap.size) :
    Calls Tryd.prog 98 #[.slice A l.length c] w fun e w' => e = .returned (.bool (U8.utf8 l)) ∧ Below w.heap.size w w' := by
  unfold maxLen at hm
  obtain ⟨ANS, hANS⟩ : ∃ ANS, U8.utf8 l = ANS := ⟨_, rfl⟩
  rw [hANS]
  have HS := Lib.hid hs
  have HX := Lib.hid hb
  have HA := Lib.hid hANS
  have HT := Lib.hid hT
  clear hs hb hANS hT
  go_enter Tryd.func98, Tryd.ntmps98
  go_wp2_with fail
  go_loopg [0] (l.length + 1) (fun gk s0 wx => Below w.heap.size w wx ∧ ∃ (A' : Option Addr) (t : List Int), s0 = .slice A' t.length t.length ∧ Hid (Lst wx B A' (u8s t)) ∧ Hid (St.bts t) ∧ Hid (U8.utf8 t = ANS) ∧ t.length < gk ∧ t.length ≤ 9223372036854775807)
  case atStart => exact ⟨Below.refl _ _, A, l, rfl, HS, HX, HA, by omega, by omega⟩
  case round =>
    obtain ⟨hbw, A', t, rfl, HSt, HXt, HAt, hg, htl⟩ := hrel
    clear HS HX HA
    by_cases h0 : 0 < t.length
    · obtain ⟨g', rfl⟩ : ∃ g', gk = g' + 1 := ⟨gk - 1, by omega⟩
      have h0z : (0 : Int) < (t.length : Int) := by omega
      obtain ⟨b, o, rfl, hlt, hcell⟩ := HSt.out.bytes (k := 0) (by omega)
      have e0 : wr.cell? ⟨b, o, none⟩ = some (.int .u8 (t.getD 0 0)) := by simpa using hcell 0 h0
      have HC := Lib.hid hcell
      clear hcell
      have htne : t ≠ [] := fun e => by subst e; simp at h0
      have hx0b : 0 ≤ t.getD 0 0 ∧ t.getD 0 0 ≤ 255 := HXt.out _ (by simp [List.getD, List.getElem?_eq_getElem h0])
      obtain ⟨y, hy⟩ := Int.eq_ofNat_of_zero_le hx0b.1
      rw [hy] at e0 hx0b
      have HY := Lib.hid hy
      clear hy
      by_cases hasc : y < 128
      · as_aux_lemma =>
          have hascz : (y : Int) < 128 := by omega
          have hv1 := (U8.low_drop t h0 (by rw [HY.out]; exact hascz)).symm.trans HAt.out
          have HB := Lib.hid hbw
          clear hbw
          by_cases h1 : t.length = 1
          · go_wp2_with fail
            go_roundg g'
            case rel => exact ⟨HB.out, some ⟨b, o, none⟩, [], rfl, Lib.hid .nil, Lib.hid (fun x hx => by simp at hx), Lib.hid (by rw [← hv1, List.drop_of_length_le (by omega)]), by simp; omega, by simp⟩
            case measure => omega
          · obtain ⟨t1, ht1⟩ : ∃ t1, t.drop 1 = t1 := ⟨_, rfl⟩
            have hl1 : t.length - 1 = t1.length := by rw [← ht1, List.length_drop]
            have HS1 : Hid (Lst wr B (some ⟨b, o + 1, none⟩) (u8s t1)) := Lib.hid (by rw [← ht1]; exact Lst.tail HSt.out 1)
            have HX1 : Hid (St.bts t1) := Lib.hid (fun x hx => HXt.out x (by rw [← ht1] at hx; exact List.mem_of_mem_drop hx))
            rw [ht1] at hv1
            have HA1 := Lib.hid hv1
            have h1t : t1.length < t.length := by omega
            clear hv1 ht1
            by_cases c8 : 8 < t1.length
            · have c8z : (8 : Int) < (t1.length : Int) := by omega
              have c8n : ¬ t1.length = 8 := by omega
              have lA1 := U8.le8_lt t1
              have kA1 := U8.le8_low t1 (by omega) HX1.out
              have CW1 := Lib.hid (fun (W : World) (hW : ∀ p, W.cell? p = wr.cell? p) => U8W.word_any (some ⟨b, o + 1, none⟩) B t1.length t1 W (HS1.out.keep fun p _ => hW p) (by omega) HX1.out)
              generalize U8.le8 t1 = A1 at *
              have hand1 : bits .and .u64 (A1 : Int) 9259542123273814144 = ((A1 &&& 9259542123273814144 : Nat) : Int) := u64_and_nat A1 9259542123273814144 lA1 (by omega)
              obtain ⟨Z1, hZ1⟩ : ∃ Z1, A1 &&& 9259542123273814144 = Z1 := ⟨_, rfl⟩
              rw [hZ1] at hand1 kA1
              have KA1 := Lib.hid kA1
              clear kA1 hZ1
              by_cases hz1 : Z1 = 0
              · have hz1b : ((Z1 : Int) == 0) = true := by simp [hz1]
                obtain ⟨t2, ht2⟩ : ∃ t2, t1.drop 8 = t2 := ⟨_, rfl⟩
                have hl2 : t1.length - 8 = t2.length := by rw [← ht2, List.length_drop]
                have HS2 : Hid (Lst wr B (some ⟨b, o + 1 + 8, none⟩) (u8s t2)) := Lib.hid (by rw [← ht2]; exact Lst.tail HS1.out 8)
                have HX2 : Hid (St.bts t2) := Lib.hid (fun x hx => HX1.out x (by rw [← ht2] at hx; exact List.mem_of_mem_drop hx))
                have HA2 : Hid (U8.utf8 t2 = ANS) := Lib.hid (by rw [← ht2, ← U8.utf8_skip 8 t1 (KA1.out hz1)]; exact HA1.out)
                clear ht2 KA1
                go_wp2_with (go_at_call 107; refine (CW1.out _ (by intro _; rfl)).mono ?_; rintro e W1 ⟨rfl, q1, rfl⟩)
                have HB1 := Lib.hid (below_drewNv HB.out q1)
                have HE1 : Hid (∀ p, (wr.drewN q1).cell? p = wr.cell? p) := Lib.hid (fun _ => rfl)
                generalize wr.drewN q1 = wq at *
                clear CW1 hand1
                by_cases c16 : 16 < t2.length
                · have c16z : (16 : Int) < (t2.length : Int) := by omega
                  have c16n : ¬ t2.length = 16 := by omega
                  have s8z : (8 : Int) ≤ (t2.length : Int) := by omega
                  obtain ⟨t2b, ht2b⟩ : ∃ t2b, t2.drop 8 = t2b := ⟨_, rfl⟩
                  have hl2b : t2.length - 8 = t2b.length := by rw [← ht2b, List.length_drop]
                  have n8 : ¬ t2.length = 8 := by omega
                  have HS2b : Hid (Lst wr B (some ⟨b, o + 1 + 8 + 8, none⟩) (u8s t2b)) := Lib.hid (by rw [← ht2b]; exact Lst.tail HS2.out 8)
                  have HX2b : Hid (St.bts t2b) := Lib.hid (fun x hx => HX2.out x (by rw [← ht2b] at hx; exact List.mem_of_mem_drop hx))
                  have CW2 := Lib.hid (fun (n : Nat) => U8W.word_any (some ⟨b, o + 1 + 8, none⟩) B t2.length t2 (wq.drewN n) (HS2.out.keep fun p _ => HE1.out p) (by omega) HX2.out)
                  have CW3 := Lib.hid (fun (n : Nat) => U8W.word_any (some ⟨b, o + 1 + 8 + 8, none⟩) B t2b.length t2b (wq.drewN n) (HS2b.out.keep fun p _ => HE1.out p) (by omega) HX2b.out)
                  have lA2 := U8.le8_lt t2
                  have lA3 := U8.le8_lt t2b
                  have k2 := U8.two_low t2 (by omega) HX2.out
                  rw [ht2b] at k2
                  generalize U8.le8 t2 = A2 at *
                  generalize U8.le8 t2b = A3 at *
                  have hor2 : bits .or .u64 (A2 : Int) (A3 : Int) = ((A2 ||| A3 : Nat) : Int) := u64_or_nat A2 A3 lA2 lA3
                  have lor2 : A2 ||| A3 < 18446744073709551616 := Nat.or_lt_two_pow (n := 64) lA2 lA3
                  have hand2 : bits .and .u64 ((A2 ||| A3 : Nat) : Int) 9259542123273814144 = (((A2 ||| A3) &&& 9259542123273814144 : Nat) : Int) := u64_and_nat _ 9259542123273814144 lor2 (by omega)
                  obtain ⟨O2, hO2⟩ : ∃ O2, A2 ||| A3 = O2 := ⟨_, rfl⟩
                  rw [hO2] at hor2 hand2 k2
                  obtain ⟨Z2, hZ2⟩ : ∃ Z2, O2 &&& 9259542123273814144 = Z2 := ⟨_, rfl⟩
                  rw [hZ2] at hand2 k2
                  have K2 := Lib.hid k2
                  clear k2 lor2 hO2 hZ2 ht2b
                  by_cases hz2 : Z2 = 0
                  · have hz2b : ((Z2 : Int) == 0) = true := by simp [hz2]
                    obtain ⟨t3, ht3⟩ : ∃ t3, t2.drop 16 = t3 := ⟨_, rfl⟩
                    have hl3 : t2.length - 16 = t3.length := by rw [← ht3, List.length_drop]
                    have HS3 : Hid (Lst wr B (some ⟨b, o + 1 + 8 + 16, none⟩) (u8s t3)) := Lib.hid (by rw [← ht3]; exact Lst.tail HS2.out 16)
                    have HX3 : Hid (St.bts t3) := Lib.hid (fun x hx => HX2.out x (by rw [← ht3] at hx; exact List.mem_of_mem_drop hx))
                    have HA3 : Hid (U8.utf8 t3 = ANS) := Lib.hid (by rw [← ht3, ← U8.utf8_skip 16 t2 (K2.out hz2)]; exact HA2.out)
                    clear ht3 K2
                    go_quiet (first | (go_at_call 107; with_reducible exact Calls.quiet_of (CW2.out _)) | (go_at_call 107; with_reducible exact Calls.quiet_of (CW3.out _)))
                    have HB2 := Lib.hid (below_drewNv HB1.out nq)
                    have HE2 : Hid (∀ p, (wq.drewN nq).cell? p = wr.cell? p) := Lib.hid (fun p => HE1.out p)
                    generalize wq.drewN nq = wq2 at *
                    clear CW2 CW3 HB1 HE1 hor2 hand2
                    go_wp2_with fail
                    go_loopg [0] (t3.length + 1) (fun g2 s0 wx => Below w.heap.size w wx ∧ ∃ (A2 : Option Addr) (u : List Int), s0 = .slice A2 u.length u.length ∧ Hid (Lst wx B A2 (u8s u)) ∧ Hid (St.bts u) ∧ Hid (U8.utf8 u = ANS) ∧ u.length < g2 ∧ u.length ≤ t3.length)
                    case atStart => exact ⟨HB2.out, _, t3, rfl, Lib.hid (HS3.out.keep fun p _ => HE2.out p), HX3, HA3, by omega, Nat.le_refl _⟩
                    case round =>
                      obtain ⟨hbu, Au, u, rfl, HSu, HXu, HAu, hgu, hut⟩ := hrel
                      have HBu := Lib.hid hbu
                      clear hbu
                      by_cases c32 : 32 < u.length
                      · obtain ⟨g3, rfl⟩ : ∃ g3, gk = g3 + 1 := ⟨gk - 1, by omega⟩
                        obtain ⟨b', o', rfl, hlt', _⟩ := HSu.out.bytes (k := 0) (by omega)
                        have c32z : (32 : Int) < (u.length : Int) := by omega
                        have s8u : (8 : Int) ≤ (u.length : Int) := by omega
                        have s16u : (16 : Int) ≤ (u.length : Int) := by omega
                        have s24u : (24 : Int) ≤ (u.length : Int) := by omega
                        have n8u : ¬ u.length = 8 := by omega
                        have n16u : ¬ u.length = 16 := by omega
                        have n24u : ¬ u.length = 24 := by omega
                        have n32u : ¬ u.length = 32 := by omega
                        obtain ⟨ub, hub⟩ : ∃ ub, u.drop 8 = ub := ⟨_, rfl⟩
                        have hlb : u.length - 8 = ub.length := by rw [← hub, List.length_drop]
                        obtain ⟨uc, huc⟩ : ∃ uc, u.drop 16 = uc := ⟨_, rfl⟩
                        have hlc : u.length - 16 = uc.length := by rw [← huc, List.length_drop]
                        obtain ⟨ud, hud⟩ : ∃ ud, u.drop 24 = ud := ⟨_, rfl⟩
                        have hld : u.length - 24 = ud.length := by rw [← hud, List.length_drop]
                        have C0 := Lib.hid (fun (n : Nat) => U8W.word_any (some ⟨b', o', none⟩) B u.length u (wr.drewN n) (HSu.out.keep fun p _ => rfl) (by omega) HXu.out)
                        have C1 := Lib.hid (fun (n : Nat) => U8W.word_any (some ⟨b', o' + 8, none⟩) B ub.length ub (wr.drewN n) (by rw [← hub]; exact (Lst.tail HSu.out 8).keep fun p _ => rfl) (by omega) (by rw [← hub]; exact fun x hx => HXu.out x (List.mem_of_mem_drop hx)))
                        have C2 := Lib.hid (fun (n : Nat) => U8W.word_any (some ⟨b', o' + 16, none⟩) B uc.length uc (wr.drewN n) (by rw [← huc]; exact (Lst.tail HSu.out 16).keep fun p _ => rfl) (by omega) (by rw [← huc]; exact fun x hx => HXu.out x (List.mem_of_mem_drop hx)))
                        have C3 := Lib.hid (fun (n : Nat) => U8W.word_any (some ⟨b', o' + 24, none⟩) B ud.length ud (wr.drewN n) (by rw [← hud]; exact (Lst.tail HSu.out 24).keep fun p _ => rfl) (by omega) (by rw [← hud]; exact fun x hx => HXu.out x (List.mem_of_mem_drop hx)))
                        have lB0 := U8.le8_lt u
                        have lB1 := U8.le8_lt ub
                        have lB2 := U8.le8_lt uc
                        have lB3 := U8.le8_lt ud
                        have k3 := U8.four_low u (by omega) HXu.out
                        rw [hub, huc, hud] at k3
                        generalize U8.le8 u = B0 at *
                        generalize U8.le8 ub = B1 at *
                        generalize U8.le8 uc = B2 at *
                        generalize U8.le8 ud = B3 at *
                        have ho1 : bits .or .u64 (B0 : Int) (B1 : Int) = ((B0 ||| B1 : Nat) : Int) := u64_or_nat B0 B1 lB0 lB1
                        have ho2 : bits .or .u64 (B2 : Int) (B3 : Int) = ((B2 ||| B3 : Nat) : Int) := u64_or_nat B2 B3 lB2 lB3
                        have lo1 : B0 ||| B1 < 18446744073709551616 := Nat.or_lt_two_pow (n := 64) lB0 lB1
                        have lo2 : B2 ||| B3 < 18446744073709551616 := Nat.or_lt_two_pow (n := 64) lB2 lB3
                        have ho3 : bits .or .u64 ((B0 ||| B1 : Nat) : Int) ((B2 ||| B3 : Nat) : Int) = (((B0 ||| B1) ||| (B2 ||| B3) : Nat) : Int) := u64_or_nat _ _ lo1 lo2
                        have lo3 : (B0 ||| B1) ||| (B2 ||| B3) < 18446744073709551616 := Nat.or_lt_two_pow (n := 64) lo1 lo2
                        have hand3 : bits .and .u64 (((B0 ||| B1) ||| (B2 ||| B3) : Nat) : Int) 9259542123273814144 = ((((B0 ||| B1) ||| (B2 ||| B3)) &&& 9259542123273814144 : Nat) : Int) := u64_and_nat _ 9259542123273814144 lo3 (by omega)
                        obtain ⟨P1, hP1⟩ : ∃ P1, B0 ||| B1 = P1 := ⟨_, rfl⟩
                        obtain ⟨P2, hP2⟩ : ∃ P2, B2 ||| B3 = P2 := ⟨_, rfl⟩
                        rw [hP1, hP2] at ho3 hand3 k3
                        rw [hP1] at ho1
                        rw [hP2] at ho2
                        obtain ⟨P3, hP3⟩ : ∃ P3, P1 ||| P2 = P3 := ⟨_, rfl⟩
                        rw [hP3] at ho3 hand3 k3
                        obtain ⟨Z3, hZ3⟩ : ∃ Z3, P3 &&& 9259542123273814144 = Z3 := ⟨_, rfl⟩
                        rw [hZ3] at hand3 k3
                        have K3 := Lib.hid k3
                        clear k3 lo1 lo2 lo3 hP1 hP2 hP3 hZ3 hub huc hud
                        by_cases hz3 : Z3 = 0
                        · have hz3b : ((Z3 : Int) == 0) = true := by simp [hz3]
                          obtain ⟨u2, hu2⟩ : ∃ u2, u.drop 32 = u2 := ⟨_, rfl⟩
                          have hlu : u.length - 32 = u2.length := by rw [← hu2, List.length_drop]
                          have HS4 : Hid (Lst wr B (some ⟨b', o' + 32, none⟩) (u8s u2)) := Lib.hid (by rw [← hu2]; exact Lst.tail HSu.out 32)
                          have HX4 : Hid (St.bts u2) := Lib.hid (fun x hx => HXu.out x (by rw [← hu2] at hx; exact List.mem_of_mem_drop hx))
                          have HA4 : Hid (U8.utf8 u2 = ANS) := Lib.hid (by rw [← hu2, ← U8.utf8_skip 32 u (K3.out hz3)]; exact HAu.out)
                          clear hu2 K3
                          go_wp2_with fail
                          go_quiet (first | (go_at_call 107; with_reducible exact Calls.quiet_of (C0.out _)) | (go_at_call 107; with_reducible exact Calls.quiet_of (C1.out _)) | (go_at_call 107; with_reducible exact Calls.quiet_of (C2.out _)) | (go_at_call 107; with_reducible exact Calls.quiet_of (C3.out _)))
                          go_wp2_with fail
                          go_roundg g3
                          case rel => exact ⟨below_drewNv HBu.out nq, _, u2, rfl, Lib.hid (HS4.out.keep fun p _ => rfl), HX4, HA4, by omega, by omega⟩
                          case measure => omega
                        · have hz3b : ((Z3 : Int) == 0) = false := by simp; omega
                          go_wp2_with fail
                          go_quiet (first | (go_at_call 107; with_reducible exact Calls.quiet_of (C0.out _)) | (go_at_call 107; with_reducible exact Calls.quiet_of (C1.out _)) | (go_at_call 107; with_reducible exact Calls.quiet_of (C2.out _)) | (go_at_call 107; with_reducible exact Calls.quiet_of (C3.out _)))
                          go_wp2_with fail
                          go_roundg g'
                          case rel => exact ⟨below_drewNv HBu.out nq, _, u, rfl, Lib.hid (HSu.out.keep fun p _ => rfl), HXu, HAu, by omega, by omega⟩
                          case measure => omega
                      · have c32z : ¬ ((32 : Int) < (u.length : Int)) := by omega
                        have c32b : decide ((32 : Int) < (u.length : Int)) = false := decide_eq_false c32z
                        go_wp2_with fail
                        go_quiet (fail)
                        go_wp2_with fail
                        go_roundg g'
                        case rel => exact ⟨below_drewNv HBu.out nq, _, u, rfl, Lib.hid (HSu.out.keep fun p _ => rfl), HXu, HAu, by omega, by omega⟩
                        case measure => omega
                  · have hz2b : ((Z2 : Int) == 0) = false := by simp; omega
                    go_quiet (first | (go_at_call 107; with_reducible exact Calls.quiet_of (CW2.out _)) | (go_at_call 107; with_reducible exact Calls.quiet_of (CW3.out _)))
                    go_wp2_with fail
                    go_roundg g'
                    case rel => exact ⟨below_drewNv HB1.out nq, _, t2, rfl, Lib.hid (HS2.out.keep fun p _ => HE1.out p), HX2, HA2, by omega, by omega⟩
                    case measure => omega
                · have c16z : ¬ ((16 : Int) < (t2.length : Int)) := by omega
                  have c16b : decide ((16 : Int) < (t2.length : Int)) = false := decide_eq_false c16z
                  go_quiet (fail)
                  go_wp2_with fail
                  go_roundg g'
                  case rel => exact ⟨below_drewNv HB1.out nq, _, t2, rfl, Lib.hid (HS2.out.keep fun p _ => HE1.out p), HX2, HA2, by omega, by omega⟩
                  case measure => omega
              · have hz1b : ((Z1 : Int) == 0) = false := by simp; omega
                go_wp2_with (go_at_call 107; refine (CW1.out _ (by intro _; rfl)).mono ?_; rintro e W1 ⟨rfl, q1, rfl⟩)
                go_roundg g'
                case rel => exact ⟨below_drewNv HB.out q1, _, t1, rfl, Lib.hid (HS1.out.keep fun p _ => rfl), HX1, HA1, by omega, by omega⟩
                case measure => omega
            · have c8z : ¬ ((8 : Int) < (t1.length : Int)) := by omega
              go_wp2_with fail
              go_roundg g'
              case rel => exact ⟨HB.out, _, t1, rfl, HS1, HX1, HA1, by omega, by omega⟩
              case measure => omega
      · have hge : 128 ≤ y := by omega
        have hascz : ¬ ((y : Int) < 128) := by omega
        have hTr : Lib.Utf8Tabs 1 2 wr := ⟨fun c hc => (hbw.cell (p := ⟨1, c, none⟩) hG1).trans (HT.out.1 c hc), fun i hi => ⟨(hbw.cell (p := ⟨2, 2 * i, none⟩) hG2).trans (HT.out.2 i hi).1, (hbw.cell (p := ⟨2, 2 * i + 1, none⟩) hG2).trans (HT.out.2 i hi).2⟩⟩
        have hc0 := hTr.1 y (by omega)
        have hXlt : Lib.firstT y < 256 := by rcases Lib.firstT_cases y with h | h | h | h | h | h | h | h | h <;> omega
        have htab := U8.tabs y hge (by omega)
        have hbw0 : b < wr.heap.size := by have := hbw.size; omega
        have hBw : B ≤ wr.heap.size := by have := hbw.size; omega
        have HB := Lib.hid hbw
        obtain ⟨X, hX⟩ : ∃ X, Lib.firstT y = X := ⟨_, rfl⟩
        rw [hX] at hc0 hXlt htab
        have h7 := and7 ⟨X, hXlt⟩
        simp only at h7
        have ha0 : wr.cell? ⟨2, X / 16 * 2, none⟩ = some (.int .u8 (Lib.accLo (X / 16))) := by rw [Nat.mul_comm]; exact (hTr.2 (X / 16) (by omega)).1
        have ha1 : wr.cell? ⟨2, X / 16 * 2 + 1, none⟩ = some (.int .u8 (Lib.accHi (X / 16))) := by rw [Nat.mul_comm]; exact (hTr.2 (X / 16) (by omega)).2
        generalize (Lib.accLo (X / 16) : Int) = LO at *
        generalize (Lib.accHi (X / 16) : Int) = HI at *
        clear hTr hX hbw
        rcases U8.cnt_cases (y : Int) with hcn | hcn | hcn | hcn
        · -- none
          have hX1 : (X : Int) % 8 = 1 := by omega
          have hbd : ANS = false := by
            rw [← HAt.out, U8.bad_false t htne (by rw [HY.out]; omega)]
            unfold U8.bad
            rw [HY.out, hcn]
            omega
          have HBD := Lib.hid hbd
          clear hbd htab hcn
          go_wp2_with fail
          go_ret
          exact ⟨ret_bool HBD.out.symm, HB.out.alloc HB.out.size _⟩
        · -- 2 bytes
          as_aux_lemma =>
            have hSZ : (X : Int) % 8 = 2 := by omega
            have hbd : ∀ h : t.length < 2 ∨ t.getD 1 0 < LO ∨ HI < t.getD 1 0, ANS = false := fun h => by
              rw [← HAt.out, U8.bad_false t htne (by rw [HY.out]; omega)]
              unfold U8.bad
              rw [HY.out, hcn]
              omega
            have hgd : ¬ (t.length < 2 ∨ t.getD 1 0 < LO ∨ HI < t.getD 1 0) → U8.utf8 (t.drop 2) = ANS := fun h => by
              have hnb : ¬ U8.bad t := by
                unfold U8.bad
                rw [HY.out, hcn]
                omega
              have hg := U8.good_drop t htne (by rw [HY.out]; omega) hnb
              rw [HY.out, hcn] at hg
              rw [← hg, HAt.out]
            have HBD := Lib.hid hbd
            have HGD := Lib.hid hgd
            clear hbd hgd
            go_wp2_with fail
            have HB0 := Lib.hid (HB.out.alloc HB.out.size (.cells #[.int .u8 LO, .int .u8 HI] 163))
            have a0 : (wr.alloc (.cells #[.int .u8 LO, .int .u8 HI] 163)).cell? ⟨wr.heap.size, 0, none⟩ = some (.int .u8 LO) := by simp
            have a1 : (wr.alloc (.cells #[.int .u8 LO, .int .u8 HI] 163)).cell? ⟨wr.heap.size, 1, none⟩ = some (.int .u8 HI) := by simp
            have HE : Hid (∀ p : Addr, p.block < wr.heap.size → (wr.alloc (.cells #[.int .u8 LO, .int .u8 HI] 163)).cell? p = wr.cell? p) := Lib.hid (fun p hp => World.cell?_alloc_lt wr _ p hp)
            clear e0 hc0 ha0 ha1
            generalize wr.alloc (.cells #[.int .u8 LO, .int .u8 HI] 163) = W0 at *
            by_cases q0 : t.length < 2
            · have q0z : (t.length : Int) < 2 := by omega
              go_quiet (fail)
              go_wp2_with fail
              go_ret
              exact ⟨ret_bool (HBD.out (by omega)).symm, below_drewNv HB0.out _⟩
            · have q0z : ¬ ((t.length : Int) < 2) := by omega
              have hz1 : (1 : Int) < (t.length : Int) := by omega
              have e1 : W0.cell? ⟨b, o + 1, none⟩ = some (.int .u8 (t.getD 1 0)) := (HE.out _ hbw0).trans (HC.out 1 (by omega))
              have y1 : 0 ≤ t.getD 1 0 ∧ t.getD 1 0 ≤ 255 := HXt.out _ (by simp [List.getD, List.getElem?_eq_getElem (show 1 < t.length by omega)])
              generalize t.getD 1 0 = z1 at *
              by_cases q1 : z1 < LO
              · have q1d : decide (z1 < LO) = true := decide_eq_true q1
                go_quiet (fail)
                go_wp2_with fail
                go_ret
                exact ⟨ret_bool (HBD.out (by omega)).symm, below_drewNv HB0.out _⟩
              · have q1d : decide (z1 < LO) = false := decide_eq_false q1
                by_cases q2 : HI < z1
                · have q2d : decide (HI < z1) = true := decide_eq_true q2
                  go_quiet (fail)
                  go_wp2_with fail
                  go_ret
                  exact ⟨ret_bool (HBD.out (by omega)).symm, below_drewNv HB0.out _⟩
                · have q2d : decide (HI < z1) = false := decide_eq_false q2
                  obtain ⟨t', ht'⟩ : ∃ t', t.drop 2 = t' := ⟨_, rfl⟩
                  have hl' : t.length - 2 = t'.length := by rw [← ht', List.length_drop]
                  have HS' : Hid (Lst W0 B (some ⟨b, o + 2, none⟩) (u8s t')) := Lib.hid (by rw [← ht']; exact (Lst.tail HSt.out 2).keep fun p hp => HE.out p (by omega))
                  have HX' : Hid (St.bts t') := Lib.hid (fun x hx => HXt.out x (by rw [← ht'] at hx; exact List.mem_of_mem_drop hx))
                  have HA' : Hid (U8.utf8 t' = ANS) := Lib.hid (by rw [← ht']; exact HGD.out (by omega))
                  clear ht'
                  go_quiet (fail)
                  by_cases hcap : t.length = 2
                  · go_wp2_with fail
                    go_roundg g'
                    case rel => exact ⟨below_drewNv HB0.out _, _, [], rfl, Lib.hid .nil, Lib.hid (fun x hx => by simp at hx), Lib.hid (by have := List.eq_nil_of_length_eq_zero (l := t') (by omega); rw [← this]; exact HA'.out), by simp; omega, by simp⟩
                    case measure => omega
                  · go_wp2_with fail
                    go_roundg g'
                    case rel => exact ⟨below_drewNv HB0.out _, _, t', rfl, Lib.hid (HS'.out.keep fun p _ => rfl), HX', HA', by omega, by omega⟩
                    case measure => omega
        · -- 3 bytes
          as_aux_lemma =>
            have hSZ : (X : Int) % 8 = 3 := by omega
            have hbd : ∀ h : t.length < 3 ∨ t.getD 1 0 < LO ∨ HI < t.getD 1 0 ∨ t.getD 2 0 < 128 ∨ 191 < t.getD 2 0, ANS = false := fun h => by
              rw [← HAt.out, U8.bad_false t htne (by rw [HY.out]; omega)]
              unfold U8.bad
              rw [HY.out, hcn]
              omega
            have hgd : ¬ (t.length < 3 ∨ t.getD 1 0 < LO ∨ HI < t.getD 1 0 ∨ t.getD 2 0 < 128 ∨ 191 < t.getD 2 0) → U8.utf8 (t.drop 3) = ANS := fun h => by
              have hnb : ¬ U8.bad t := by
                unfold U8.bad
                rw [HY.out, hcn]
                omega
              have hg := U8.good_drop t htne (by rw [HY.out]; omega) hnb
              rw [HY.out, hcn] at hg
              rw [← hg, HAt.out]
            have HBD := Lib.hid hbd
            have HGD := Lib.hid hgd
            clear hbd hgd
            go_wp2_with fail
            have HB0 := Lib.hid (HB.out.alloc HB.out.size (.cells #[.int .u8 LO, .int .u8 HI] 163))
            have a0 : (wr.alloc (.cells #[.int .u8 LO, .int .u8 HI] 163)).cell? ⟨wr.heap.size, 0, none⟩ = some (.int .u8 LO) := by simp
            have a1 : (wr.alloc (.cells #[.int .u8 LO, .int .u8 HI] 163)).cell? ⟨wr.heap.size, 1, none⟩ = some (.int .u8 HI) := by simp
            have HE : Hid (∀ p : Addr, p.block < wr.heap.size → (wr.alloc (.cells #[.int .u8 LO, .int .u8 HI] 163)).cell? p = wr.cell? p) := Lib.hid (fun p hp => World.cell?_alloc_lt wr _ p hp)
            clear e0 hc0 ha0 ha1
            generalize wr.alloc (.cells #[.int .u8 LO, .int .u8 HI] 163) = W0 at *
            by_cases q0 : t.length < 3
            · have q0z : (t.length : Int) < 3 := by omega
              go_quiet (fail)
              go_wp2_with fail
              go_ret
              exact ⟨ret_bool (HBD.out (by omega)).symm, below_drewNv HB0.out _⟩
            · have q0z : ¬ ((t.length : Int) < 3) := by omega
              have hz1 : (1 : Int) < (t.length : Int) := by omega
              have e1 : W0.cell? ⟨b, o + 1, none⟩ = some (.int .u8 (t.getD 1 0)) := (HE.out _ hbw0).trans (HC.out 1 (by omega))
              have y1 : 0 ≤ t.getD 1 0 ∧ t.getD 1 0 ≤ 255 := HXt.out _ (by simp [List.getD, List.getElem?_eq_getElem (show 1 < t.length by omega)])
              have hz2 : (2 : Int) < (t.length : Int) := by omega
              have e2 : W0.cell? ⟨b, o + 2, none⟩ = some (.int .u8 (t.getD 2 0)) := (HE.out _ hbw0).trans (HC.out 2 (by omega))
              have y2 : 0 ≤ t.getD 2 0 ∧ t.getD 2 0 ≤ 255 := HXt.out _ (by simp [List.getD, List.getElem?_eq_getElem (show 2 < t.length by omega)])
              generalize t.getD 1 0 = z1 at *
              generalize t.getD 2 0 = z2 at *
              by_cases q1 : z1 < LO
              · have q1d : decide (z1 < LO) = true := decide_eq_true q1
                go_quiet (fail)
                go_wp2_with fail
                go_ret
                exact ⟨ret_bool (HBD.out (by omega)).symm, below_drewNv HB0.out _⟩
              · have q1d : decide (z1 < LO) = false := decide_eq_false q1
                by_cases q2 : HI < z1
                · have q2d : decide (HI < z1) = true := decide_eq_true q2
                  go_quiet (fail)
                  go_wp2_with fail
                  go_ret
                  exact ⟨ret_bool (HBD.out (by omega)).symm, below_drewNv HB0.out _⟩
                · have q2d : decide (HI < z1) = false := decide_eq_false q2
                  by_cases q3 : z2 < 128
                  · have q3d : decide (z2 < 128) = true := decide_eq_true q3
                    go_quiet (fail)
                    go_wp2_with fail
                    go_ret
                    exact ⟨ret_bool (HBD.out (by omega)).symm, below_drewNv HB0.out _⟩
                  · have q3d : decide (z2 < 128) = false := decide_eq_false q3
                    by_cases q4 : 191 < z2
                    · have q4d : decide (191 < z2) = true := decide_eq_true q4
                      go_quiet (fail)
                      go_wp2_with fail
                      go_ret
                      exact ⟨ret_bool (HBD.out (by omega)).symm, below_drewNv HB0.out _⟩
                    · have q4d : decide (191 < z2) = false := decide_eq_false q4
                      obtain ⟨t', ht'⟩ : ∃ t', t.drop 3 = t' := ⟨_, rfl⟩
                      have hl' : t.length - 3 = t'.length := by rw [← ht', List.length_drop]
                      have HS' : Hid (Lst W0 B (some ⟨b, o + 3, none⟩) (u8s t')) := Lib.hid (by rw [← ht']; exact (Lst.tail HSt.out 3).keep fun p hp => HE.out p (by omega))
                      have HX' : Hid (St.bts t') := Lib.hid (fun x hx => HXt.out x (by rw [← ht'] at hx; exact List.mem_of_mem_drop hx))
                      have HA' : Hid (U8.utf8 t' = ANS) := Lib.hid (by rw [← ht']; exact HGD.out (by omega))
                      clear ht'
                      go_quiet (fail)
                      by_cases hcap : t.length = 3
                      · go_wp2_with fail
                        go_roundg g'
                        case rel => exact ⟨below_drewNv HB0.out _, _, [], rfl, Lib.hid .nil, Lib.hid (fun x hx => by simp at hx), Lib.hid (by have := List.eq_nil_of_length_eq_zero (l := t') (by omega); rw [← this]; exact HA'.out), by simp; omega, by simp⟩
                        case measure => omega
                      · go_wp2_with fail
                        go_roundg g'
                        case rel => exact ⟨below_drewNv HB0.out _, _, t', rfl, Lib.hid (HS'.out.keep fun p _ => rfl), HX', HA', by omega, by omega⟩
                        case measure => omega
        · -- 4 bytes
          as_aux_lemma =>
            have hSZ : (X : Int) % 8 = 4 := by omega
            have hbd : ∀ h : t.length < 4 ∨ t.getD 1 0 < LO ∨ HI < t.getD 1 0 ∨ t.getD 2 0 < 128 ∨ 191 < t.getD 2 0 ∨ t.getD 3 0 < 128 ∨ 191 < t.getD 3 0, ANS = false := fun h => by
              rw [← HAt.out, U8.bad_false t htne (by rw [HY.out]; omega)]
              unfold U8.bad
              rw [HY.out, hcn]
              omega
            have hgd : ¬ (t.length < 4 ∨ t.getD 1 0 < LO ∨ HI < t.getD 1 0 ∨ t.getD 2 0 < 128 ∨ 191 < t.getD 2 0 ∨ t.getD 3 0 < 128 ∨ 191 < t.getD 3 0) → U8.utf8 (t.drop 4) = ANS := fun h => by
              have hnb : ¬ U8.bad t := by
                unfold U8.bad
                rw [HY.out, hcn]
                omega
              have hg := U8.good_drop t htne (by rw [HY.out]; omega) hnb
              rw [HY.out, hcn] at hg
              rw [← hg, HAt.out]
            have HBD := Lib.hid hbd
            have HGD := Lib.hid hgd
            clear hbd hgd
            go_wp2_with fail
            have HB0 := Lib.hid (HB.out.alloc HB.out.size (.cells #[.int .u8 LO, .int .u8 HI] 163))
            have a0 : (wr.alloc (.cells #[.int .u8 LO, .int .u8 HI] 163)).cell? ⟨wr.heap.size, 0, none⟩ = some (.int .u8 LO) := by simp
            have a1 : (wr.alloc (.cells #[.int .u8 LO, .int .u8 HI] 163)).cell? ⟨wr.heap.size, 1, none⟩ = some (.int .u8 HI) := by simp
            have HE : Hid (∀ p : Addr, p.block < wr.heap.size → (wr.alloc (.cells #[.int .u8 LO, .int .u8 HI] 163)).cell? p = wr.cell? p) := Lib.hid (fun p hp => World.cell?_alloc_lt wr _ p hp)
            clear e0 hc0 ha0 ha1
            generalize wr.alloc (.cells #[.int .u8 LO, .int .u8 HI] 163) = W0 at *
            by_cases q0 : t.length < 4
            · have q0z : (t.length : Int) < 4 := by omega
              go_quiet (fail)
              go_wp2_with fail
              go_ret
              exact ⟨ret_bool (HBD.out (by omega)).symm, below_drewNv HB0.out _⟩
            · have q0z : ¬ ((t.length : Int) < 4) := by omega
              have hz1 : (1 : Int) < (t.length : Int) := by omega
              have e1 : W0.cell? ⟨b, o + 1, none⟩ = some (.int .u8 (t.getD 1 0)) := (HE.out _ hbw0).trans (HC.out 1 (by omega))
              have y1 : 0 ≤ t.getD 1 0 ∧ t.getD 1 0 ≤ 255 := HXt.out _ (by simp [List.getD, List.getElem?_eq_getElem (show 1 < t.length by omega)])
              have hz2 : (2 : Int) < (t.length : Int) := by omega
              have e2 : W0.cell? ⟨b, o + 2, none⟩ = some (.int .u8 (t.getD 2 0)) := (HE.out _ hbw0).trans (HC.out 2 (by omega))
              have y2 : 0 ≤ t.getD 2 0 ∧ t.getD 2 0 ≤ 255 := HXt.out _ (by simp [List.getD, List.getElem?_eq_getElem (show 2 < t.length by omega)])
              have hz3 : (3 : Int) < (t.length : Int) := by omega
              have e3 : W0.cell? ⟨b, o + 3, none⟩ = some (.int .u8 (t.getD 3 0)) := (HE.out _ hbw0).trans (HC.out 3 (by omega))
              have y3 : 0 ≤ t.getD 3 0 ∧ t.getD 3 0 ≤ 255 := HXt.out _ (by simp [List.getD, List.getElem?_eq_getElem (show 3 < t.length by omega)])
              generalize t.getD 1 0 = z1 at *
              generalize t.getD 2 0 = z2 at *
              generalize t.getD 3 0 = z3 at *
              by_cases q1 : z1 < LO
              · have q1d : decide (z1 < LO) = true := decide_eq_true q1
                go_quiet (fail)
                go_wp2_with fail
                go_ret
                exact ⟨ret_bool (HBD.out (by omega)).symm, below_drewNv HB0.out _⟩
              · have q1d : decide (z1 < LO) = false := decide_eq_false q1
                by_cases q2 : HI < z1
                · have q2d : decide (HI < z1) = true := decide_eq_true q2
                  go_quiet (fail)
                  go_wp2_with fail
                  go_ret
                  exact ⟨ret_bool (HBD.out (by omega)).symm, below_drewNv HB0.out _⟩
                · have q2d : decide (HI < z1) = false := decide_eq_false q2
                  by_cases q3 : z2 < 128
                  · have q3d : decide (z2 < 128) = true := decide_eq_true q3
                    go_quiet (fail)
                    go_wp2_with fail
                    go_ret
                    exact ⟨ret_bool (HBD.out (by omega)).symm, below_drewNv HB0.out _⟩
                  · have q3d : decide (z2 < 128) = false := decide_eq_false q3
                    by_cases q4 : 191 < z2
                    · have q4d : decide (191 < z2) = true := decide_eq_true q4
                      go_quiet (fail)
                      go_wp2_with fail
                      go_ret
                      exact ⟨ret_bool (HBD.out (by omega)).symm, below_drewNv HB0.out _⟩
                    · have q4d : decide (191 < z2) = false := decide_eq_false q4
                      by_cases q5 : z3 < 128
                      · have q5d : decide (z3 < 128) = true := decide_eq_true q5
                        go_quiet (fail)
                        go_wp2_with fail
                        go_ret
                        exact ⟨ret_bool (HBD.out (by omega)).symm, below_drewNv HB0.out _⟩
                      · have q5d : decide (z3 < 128) = false := decide_eq_false q5
                        by_cases q6 : 191 < z3
                        · have q6d : decide (191 < z3) = true := decide_eq_true q6
                          go_quiet (fail)
                          go_wp2_with fail
                          go_ret
                          exact ⟨ret_bool (HBD.out (by omega)).symm, below_drewNv HB0.out _⟩
                        · have q6d : decide (191 < z3) = false := decide_eq_false q6
                          obtain ⟨t', ht'⟩ : ∃ t', t.drop 4 = t' := ⟨_, rfl⟩
                          have hl' : t.length - 4 = t'.length := by rw [← ht', List.length_drop]
                          have HS' : Hid (Lst W0 B (some ⟨b, o + 4, none⟩) (u8s t')) := Lib.hid (by rw [← ht']; exact (Lst.tail HSt.out 4).keep fun p hp => HE.out p (by omega))
                          have HX' : Hid (St.bts t') := Lib.hid (fun x hx => HXt.out x (by rw [← ht'] at hx; exact List.mem_of_mem_drop hx))
                          have HA' : Hid (U8.utf8 t' = ANS) := Lib.hid (by rw [← ht']; exact HGD.out (by omega))
                          clear ht'
                          go_quiet (fail)
                          by_cases hcap : t.length = 4
                          · go_wp2_with fail
                            go_roundg g'
                            case rel => exact ⟨below_drewNv HB0.out _, _, [], rfl, Lib.hid .nil, Lib.hid (fun x hx => by simp at hx), Lib.hid (by have := List.eq_nil_of_length_eq_zero (l := t') (by omega); rw [← this]; exact HA'.out), by simp; omega, by simp⟩
                            case measure => omega
                          · go_wp2_with fail
                            go_roundg g'
                            case rel => exact ⟨below_drewNv HB0.out _, _, t', rfl, Lib.hid (HS'.out.keep fun p _ => rfl), HX', HA', by omega, by omega⟩
                            case measure => omega
    · have hnil : t = [] := List.eq_nil_of_length_eq_zero (by omega)
      subst hnil
      have HB := Lib.hid hbw
      clear hbw
      go_wp2_with fail
      go_ret
      exact ⟨ret_bool (by rw [← HAt.out]; rfl), HB.out⟩
end Go.Proofs.YthknkdphofjmhaaDoor.U8V
