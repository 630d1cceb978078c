/- The statement EidOrder: its walk. -/
import Derived.Test.YtbgcbcnidjlhnaaDoorAlive04
import Derived.Test.YtbgcbcnidjlhnaaDoorEidOrd
import Derived.Deep.CutBlock
import Derived.Deep.RegionHeld3
namespace Go.Proofs.YtbgcbcnidjlhnaaDoor.Eid
open Go.RowKit Wd

/-- Are two names one? -/
def nmEq (x y : Nm) : Bool := x.ipn == y.ipn && (x.node == y.node && (x.service == y.service && (x.host.toList == y.host.toList && x.demux.toList == y.demux.toList)))
theorem nmEq_iff (x y : Nm) : nmEq x y = true ↔ x = y := by
  obtain ⟨a1, a2, a3, a4, a5⟩ := x
  obtain ⟨b1, b2, b3, b4, b5⟩ := y
  simp only [nmEq, Bool.and_eq_true, beq_iff_eq, Nm.mk.injEq]
  constructor
  · rintro ⟨h1, h2, h3, h4, h5⟩
    exact ⟨h1, h2, h3, ba_inj (by rw [Lib.toList_data, Lib.toList_data] at h4; exact h4), ba_inj (by rw [Lib.toList_data, Lib.toList_data] at h5; exact h5)⟩
  · rintro ⟨rfl, rfl, rfl, rfl, rfl⟩
    exact ⟨rfl, rfl, rfl, rfl, rfl⟩
theorem nmEq_self (x : Nm) : nmEq x x = true := (nmEq_iff x x).2 rfl
set_option maxHeartbeats 1000000 in
theorem run_nm (w : World) (d : Nat) (i1 i2 : Bool) (n1 s1 n2 s2 : Int) (h1 d1 h2 d2 : ByteArray) :
    (Op.equalIn (d + 2) 24 (.agg #[.bool i1, .int .u64 n1, .int .u64 s1, .string h1, .string d1]) (.agg #[.bool i2, .int .u64 n2, .int .u64 s2, .string h2, .string d2])).run Tryd.prog w = .ok (nmEq ⟨i1, n1, s1, h1, d1⟩ ⟨i2, n2, s2, h2, d2⟩) w := by
  rw [run_equalIn_struct w (d + 1) 24 _ _ (by kernel_rfl) (by kernel_rfl)]
  simp only [Program.fieldsOf, Tryd.underlying24]
  unfold nmEq
  cases e1 : (i1 == i2) <;> cases e2 : (n1 == n2) <;> cases e3 : (s1 == s2) <;> cases e4 : (h1.toList == h2.toList) <;> cases e5 : (d1.toList == d2.toList) <;> go_simp
end Go.Proofs.YtbgcbcnidjlhnaaDoor.Eid
