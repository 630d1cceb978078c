/- The contract of head.Shortest. -/
import Derived.Test.YtgjihjijlhdjdaaHeadR
namespace Go.Proofs.Ytgjihjijlhdjdaa.HeadS
open Go.RowKit Wd

set_option maxHeartbeats 400000 in
theorem shortest_any (A : Option Addr) (B c : Nat) (xs : List Int) (i : Int) (w : World) (hs : Lst w B A (u8s xs)) (hB : B ≤ w.heap.size) (hx : ∀ x ∈ xs, 0 ≤ x ∧ x ≤ 255) (hc : xs.length ≤ c) (hm : c ≤ maxLen) :
    Calls Try.prog 26 #[.slice A xs.length c, .int .i64 i] w fun e w' => e = .returned (.bool (HeadP.shortest xs i)) ∧ Below w.heap.size w w' := by
  have hok := HeadP.read_ok xs i hx
  have hsh : HeadP.shortest xs i = ((HeadP.read xs i).2.2.2.2 == 0 && (HeadP.read xs i).2.2.2.1 - i == HeadP.size (HeadP.read xs i).1 (HeadP.read xs i).2.1 (HeadP.read xs i).2.2.1) := rfl
  have hrd := HeadR.read_any A B c xs i w hs hB hx hc hm
  unfold maxLen at hm
  generalize hR : HeadP.read xs i = t at *
  obtain ⟨m, n, o, j, e⟩ := t
  have HS := Lib.hid hsh
  have HD := Lib.hid hrd
  have HO := Lib.hid hok
  clear hsh hrd hok hR hs hx
  go_enter Try.func26, Try.ntmps26
  go_wp2_with fail
  refine HD.out.mono ?_
  rintro e w1 ⟨rfl, hb1⟩
  unfold HeadR.res
  have HB := Lib.hid hb1
  clear hb1
  by_cases h0 : e = 0
  · subst h0
    obtain ⟨f0, f1, f2, f3, f4, f5⟩ := HO.out m n o j rfl
    go_wp2_with fail
    refine (HeadA.size_any m n o _ f4 f5).mono ?_
    rintro e w2 ⟨rfl, hb2⟩
    have HB2 := Lib.hid (below_box HB.out HB.out.size hb2)
    clear hb2
    go_wp2_with fail
    go_ret
    exact ⟨ret_bool (by rw [HS.out]; simp), HB2.out⟩
  · have h0' : (e == 0) = false := by simpa using h0
    go_wp2_with fail
    go_ret
    exact ⟨ret_bool (by rw [HS.out, h0']; simp), HB.out.alloc HB.out.size _⟩
end Go.Proofs.Ytgjihjijlhdjdaa.HeadS
