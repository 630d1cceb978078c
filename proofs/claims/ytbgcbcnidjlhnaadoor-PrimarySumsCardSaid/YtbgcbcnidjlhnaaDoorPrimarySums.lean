/- The statement PrimarySums: whatever comes, the law returns true. -/
import Derived.Test.YtbgcbcnidjlhnaaDoorZs18
namespace Go.Proofs.YtbgcbcnidjlhnaaDoor.PrimarySums
open Go.RowKit Wd Cb Eid EncB CbCopy CbList CbRight CbWrite CbLays CbSame Prim Great

set_option maxRecDepth 100000 in
set_option maxHeartbeats 8000000 in
theorem walk_long (l : List Itm) (A : Option Addr) (c : Nat) (sm by_ : Int) (w : World) (hT : Tabs w) (hS : Sz w) (h20 : 20 < (l.length : Int)) :
    Calls Tryd.prog 11 #[.slice A l.length c, .int .u8 sm, .int .u8 by_] w fun e w' => e = .returned (.bool true) ∧ Below w.heap.size w w' := by
  have dg : decide (20 < (l.length : Int)) = true := decide_eq_true h20
  have CAl := Lib.hid (alive06_any w hT hS)
  clear hT hS
  go_enter Tryd.func11, Tryd.ntmps11
  go_wp2_with fail
  refine CAl.out.mono ?_
  rintro e w1 ⟨rfl, hb1⟩
  have HB1 := Lib.hid hb1
  clear hb1
  go_wp2_with fail
  go_ret
  exact ⟨rfl, HB1.out⟩
set_option maxRecDepth 100000 in
set_option maxHeartbeats 8000000 in
theorem walk_great (l : List Itm) (A : Option Addr) (c : Nat) (sm by_ : Int) (w : World) (hv : ItemsV w 0 w.heap.size l A) (hc : l.length ≤ c) (hm : c ≤ maxLen) (hT : Tabs w) (hS : Sz w) (h20 : ¬ 20 < (l.length : Int)) (hgr : grt (lst l) 1 100 < 0) :
    Calls Tryd.prog 11 #[.slice A l.length c, .int .u8 sm, .int .u8 by_] w fun e w' => e = .returned (.bool true) ∧ Below w.heap.size w w' := by
  have dg : decide (20 < (l.length : Int)) = false := decide_eq_false h20
  have dg2 : decide (grt (lst l) 1 100 < 0) = true := decide_eq_true hgr
  have CAl := Lib.hid (fun (W : World) (h : Below w.heap.size w W) => alive06_any W (hT.below h (Nat.le_refl _)) (hS.below h (Nat.le_refl _)))
  have CG := Lib.hid (great_rec (deep (lst l)) (lst l) (listV A l.length c) 1 100 w (Nat.le_refl _) (item_list hv rfl hc hm) (by omega) (by omega) (by omega) (by omega))
  clear hT hS hv hgr h20
  go_enter Tryd.func11, Tryd.ntmps11
  go_wp2_with fail
  refine CG.out.mono ?_
  rintro e w1 ⟨rfl, hb1⟩
  have HB1 := Lib.hid hb1
  have HA1 := Lib.hid (CAl.out w1 hb1)
  clear hb1 CG CAl
  go_wp2_with fail
  refine HA1.out.mono ?_
  rintro e w2 ⟨rfl, hb2⟩
  have HB2 := Lib.hid (below_next HB1.out HB1.out.size hb2)
  clear hb2
  go_wp2_with fail
  go_ret
  exact ⟨rfl, HB2.out⟩
theorem walk (A : Option Addr) (c : Nat) (l : List Itm) (sm by_ : Int) (w : World) (hc : l.length ≤ c) (hm : c ≤ maxLen) (hv : ItemsV w 0 w.heap.size l A) (hsm : 0 ≤ sm ∧ sm ≤ 255) (hby : 0 ≤ by_ ∧ by_ ≤ 255) (hT : Tabs w ∧ Sz w) :
    Calls Tryd.prog 11 #[.slice A l.length c, .int .u8 sm, .int .u8 by_] w fun e w' => e = .returned (.bool true) ∧ Below w.heap.size w w' := by
  by_cases h20 : 20 < (l.length : Int)
  · exact walk_long l A c sm by_ w hT.1 hT.2 h20
  by_cases hgr : grt (lst l) 1 100 < 0
  · exact walk_great l A c sm by_ w hv hc hm hT.1 hT.2 h20 hgr
  rcases (show sm % 3 = 0 ∨ sm % 3 = 1 ∨ sm % 3 = 2 by omega) with h | h | h
  · exact walk0 l A c sm by_ w hv hc hm hsm hby hT.1 hT.2 h h20 hgr
  · exact walk1 l A c sm by_ w hv hc hm hsm hby hT.1 hT.2 h h20 hgr
  · exact walk2 l A c sm by_ w hv hc hm hsm hby hT.1 hT.2 h h20 hgr
end Go.Proofs.YtbgcbcnidjlhnaaDoor.PrimarySums
