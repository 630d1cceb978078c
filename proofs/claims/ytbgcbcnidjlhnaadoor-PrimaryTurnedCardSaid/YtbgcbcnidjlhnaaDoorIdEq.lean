/- Equality of two numbers, as the model has it. -/
import Derived.Test.YtbgcbcnidjlhnaaDoorIdP
import Derived.Deep.RegionHeld3
namespace Go.Proofs.YtbgcbcnidjlhnaaDoor.Eid
open Go.RowKit Wd
set_option maxHeartbeats 2000000 in
theorem run_id (w : World) (d : Nat) (i1 i2 : Bool) (n1 s1 n2 s2 t1 q1 t2 q2 : Int) (h1 d1 h2 d2 : ByteArray) :
    (Op.equalIn (d + 3) 26 (.agg #[.bool i1, .int .u64 n1, .int .u64 s1, .string h1, .string d1, .int .u64 t1, .int .u64 q1]) (.agg #[.bool i2, .int .u64 n2, .int .u64 s2, .string h2, .string d2, .int .u64 t2, .int .u64 q2])).run Tryd.prog w = .ok (idEq ⟨⟨i1, n1, s1, h1, d1⟩, t1, q1⟩ ⟨⟨i2, n2, s2, h2, d2⟩, t2, q2⟩) w := by
  rw [run_equalIn_struct w (d + 2) 26 _ _ (by kernel_rfl) (by kernel_rfl)]
  simp only [Program.fieldsOf, Tryd.underlying26]
  unfold idEq nmEq
  cases e1 : (i1 == i2) <;> cases e2 : (n1 == n2) <;> cases e3 : (s1 == s2) <;> cases e4 : (h1.toList == h2.toList) <;> cases e5 : (d1.toList == d2.toList) <;> cases e6 : (t1 == t2) <;> cases e7 : (q1 == q2) <;> go_simp
end Go.Proofs.YtbgcbcnidjlhnaaDoor.Eid
