/- The walk of the statement SumsTell. -/
import Derived.Test.YtgjihjijlhdjdaaSumsAlive
import Derived.Test.YtgjihjijlhdjdaaSumsR
namespace Go.Proofs.Ytgjihjijlhdjdaa.SumsTell
open Go.RowKit Wd SumW Ctr SumsAlive

set_option maxRecDepth 100000 in
set_option maxHeartbeats 1600000 in
theorem walk_long (A1 A2 : Option Addr) (n1 n2 c1 c2 : Nat) (w : World) (h : 3000 < n1 ∨ 3000 < n2) :
    Calls Try.prog 3 #[.slice A1 n1 c1, .slice A2 n2 c2] w fun e w' => e = .returned (.bool true) ∧ Below w.heap.size w w' := by
  by_cases h1 : 3000 < n1
  · go_enter Try.func3, Try.ntmps3
    go_wp2_with fail
    refine (alive_any _).mono ?_
    rintro e w3 ⟨rfl, hb3⟩
    have HB3 := Lib.hid hb3
    clear hb3
    go_wp2_with fail
    go_ret
    exact ⟨rfl, HB3.out⟩
  · have h2 : 3000 < n2 := by omega
    clear h
    go_enter Try.func3, Try.ntmps3
    go_wp2_with fail
    refine (alive_any _).mono ?_
    rintro e w3 ⟨rfl, hb3⟩
    have HB3 := Lib.hid hb3
    clear hb3
    go_wp2_with fail
    go_ret
    exact ⟨rfl, HB3.out⟩

set_option maxRecDepth 100000 in
set_option maxHeartbeats 4000000 in
theorem walk_in (A1 A2 : Option Addr) (c1 c2 : Nat) (x1 x2 : List Int) (w : World) (h1 : x1.length ≤ 3000) (h2 : x2.length ≤ 3000)
    (s1 : Lst w w.heap.size A1 (u8s x1)) (s2 : Lst w w.heap.size A2 (u8s x2)) (b1 : St.bts x1) (b2 : St.bts x2) :
    Calls Try.prog 3 #[.slice A1 x1.length c1, .slice A2 x2.length c2] w fun e w' => e = .returned (.bool true) ∧ Below w.heap.size w w' := by
  have m1 : x1.length ≤ maxLen := by unfold maxLen; omega
  have m2 : x2.length ≤ maxLen := by unfold maxLen; omega
  have hL1 : ∀ (W : World) (q : Int), Below w.heap.size w W → Ready W w.heap.size q → 0 ≤ q → q < 10 → Calls Try.prog 12 #[.pointer (some ⟨w.heap.size, 0, none⟩), .slice A1 x1.length c1] W fun e w' =>
      e = .returned (.int .u32 (SumP.long (nb x1) : Nat)) ∧ Ready w' w.heap.size (q + 1) ∧ Below w.heap.size w w' := fun W q hb hr q0 q1 =>
    (Ctr.long_any w.heap.size q A1 w.heap.size c1 x1 W hr q0 (by omega) (fun V hV => s1.below (hb.grown hV hb.size (fun k hk => by injection hk with hk; omega))) b1 m1).mono
      fun e w' ⟨he, h3, hg⟩ => ⟨he, h3, hb.grown hg hb.size (fun k hk => by injection hk with hk; omega)⟩
  have hL2 : ∀ (W : World) (q : Int), Below w.heap.size w W → Ready W w.heap.size q → 0 ≤ q → q < 10 → Calls Try.prog 12 #[.pointer (some ⟨w.heap.size, 0, none⟩), .slice A2 x2.length c2] W fun e w' =>
      e = .returned (.int .u32 (SumP.long (nb x2) : Nat)) ∧ Ready w' w.heap.size (q + 1) ∧ Below w.heap.size w w' := fun W q hb hr q0 q1 =>
    (Ctr.long_any w.heap.size q A2 w.heap.size c2 x2 W hr q0 (by omega) (fun V hV => s2.below (hb.grown hV hb.size (fun k hk => by injection hk with hk; omega))) b2 m2).mono
      fun e w' ⟨he, h3, hg⟩ => ⟨he, h3, hb.grown hg hb.size (fun k hk => by injection hk with hk; omega)⟩
  have HL1 := Lib.hid hL1
  have HL2 := Lib.hid hL2
  have HS1 := Lib.hid (fun (W : World) (hb : Below w.heap.size w W) => SumW.short_any A1 w.heap.size c1 x1 W (s1.below hb) b1 m1)
  have HR1 := Lib.hid (fun (W : World) (hb : Below w.heap.size w W) => SumW.refShort_any A1 w.heap.size c1 x1 W (s1.below hb) b1 m1)
  have HG1 := Lib.hid (fun (W : World) (hb : Below w.heap.size w W) => SumW.long_any A1 w.heap.size c1 x1 W (s1.below hb) b1 m1)
  have HQ1 := Lib.hid (fun (W : World) (hb : Below w.heap.size w W) => SumW.refLong_any A1 w.heap.size c1 x1 W (s1.below hb) b1 m1)
  have HQ2 := Lib.hid (fun (W : World) (hb : Below w.heap.size w W) => SumW.refLong_any A2 w.heap.size c2 x2 W (s2.below hb) b2 m2)
  have HN2 := Lib.hid (fun (W : World) (hb : Below w.heap.size w W) => Ctr.long_nil A2 w.heap.size c2 x2 W (s2.below hb) b2 m2)
  have HR0 := Lib.hid (ready_new w)
  have HB0 := Lib.hid ((Below.refl w.heap.size w).alloc (Nat.le_refl _) (.cells Try.zeroCells42 42))
  clear hL1 hL2 s1 s2 b1 b2 m1 m2
  generalize SumP.long (nb x1) = v1 at *
  generalize SumP.long (nb x2) = v2 at *
  generalize SumP.short (nb x1) = u1 at *
  go_enter Try.func3, Try.ntmps3
  go_wp2_with fail
  refine (HL1.out _ 0 HB0.out HR0.out (by omega) (by omega)).mono ?_
  rintro e w1 ⟨rfl, hr1, hb1⟩
  have HRa := Lib.hid hr1
  have HBa := Lib.hid hb1
  clear hr1 hb1
  go_wp2_with fail
  refine (HL2.out _ (0 + 1) HBa.out HRa.out (by omega) (by omega)).mono ?_
  rintro e w2 ⟨rfl, hr2, hb2⟩
  have HRb := Lib.hid hr2
  have HBb := Lib.hid hb2
  clear hr2 hb2
  go_wp2_with fail
  refine (alive_any _).mono ?_
  rintro e w3 ⟨rfl, hb3⟩
  have HRc := Lib.hid (HRb.out.next hb3)
  have HBc := Lib.hid (below_next HBb.out HBb.out.size hb3)
  clear hb3
  go_wp2_with fail
  refine (HS1.out _ HBc.out).mono ?_
  rintro e w4 ⟨rfl, rfl⟩
  go_wp2_with fail
  refine (HR1.out _ HBc.out).mono ?_
  rintro e w4 ⟨rfl, rfl⟩
  go_wp2_with fail
  refine (HG1.out _ HBc.out).mono ?_
  rintro e w4 ⟨rfl, rfl⟩
  go_wp2_with fail
  refine (HQ1.out _ HBc.out).mono ?_
  rintro e w4 ⟨rfl, rfl⟩
  go_wp2_with fail
  refine (HQ1.out _ HBc.out).mono ?_
  rintro e w4 ⟨rfl, rfl⟩
  go_wp2_with fail
  refine (HQ2.out _ HBc.out).mono ?_
  rintro e w4 ⟨rfl, rfl⟩
  go_wp2_with fail
  refine (asked_any w.heap.size (0 + 1 + 1) _ HRc.out).mono ?_
  rintro e w4 ⟨rfl, rfl⟩
  go_wp2_with fail
  refine (HN2.out _ HBc.out).mono ?_
  rintro e w4 ⟨rfl, rfl⟩
  go_wp2_with fail
  refine (HQ2.out _ HBc.out).mono ?_
  rintro e w4 ⟨rfl, rfl⟩
  go_wp2_with fail
  refine (asked_nil _).mono ?_
  rintro e w4 ⟨rfl, rfl⟩
  go_wp2_with fail
  go_ret
  exact ⟨rfl, HBc.out⟩

theorem walk (A1 : Option Addr) (c1 : Nat) (x1 : List Int) (A2 : Option Addr) (c2 : Nat) (x2 : List Int) (w : World)
    (_l1 : x1.length ≤ c1) (_m1 : c1 ≤ maxLen) (s1 : Lst w w.heap.size A1 (u8s x1)) (b1 : St.bts x1) (_l2 : x2.length ≤ c2) (_m2 : c2 ≤ maxLen) (s2 : Lst w w.heap.size A2 (u8s x2)) (b2 : St.bts x2) :
    Calls Try.prog 3 #[.slice A1 x1.length c1, .slice A2 x2.length c2] w fun e w' => e = .returned (.bool true) ∧ Below w.heap.size w w' := by
  by_cases h : 3000 < x1.length ∨ 3000 < x2.length
  · exact walk_long A1 A2 _ _ c1 c2 w h
  · exact walk_in A1 A2 c1 c2 x1 x2 w (by omega) (by omega) s1 s2 b1 b2
end Go.Proofs.Ytgjihjijlhdjdaa.SumsTell
