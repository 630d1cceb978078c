/- Openers of arguments: what a reading of an argument tells a walk. No program is named here. -/
import Derived.WalkKit
import Derived.ProofKit
import Derived.OpenShut
import Derived.ShutString
import Derived.ChangeOld
import Derived.Below
import Derived.Lib.SmallJoins
import Derived.Test.YtbgcbcnidjlhnaaDoorWords
import Derived.Test.YtbgcbcnidjlhnaaDoorStr
namespace Go.Proofs.YtbgcbcnidjlhnaaDoor.Fr
open Go.ChangeShapes Go.WideShapes Go.ChangeAt Go.RowKit Go.Joins Go.Deep Wd

section
variable {H : Type} {enc : TypeId × Value → H} {P : Program} {W : World}

theorem lt_of_cell {w : World} {a : Addr} {v : Value} (h : w.cell? a = some v) : a.block < w.heap.size := by
  rcases Nat.lt_or_ge a.block w.heap.size with hl | hg
  · exact hl
  · simp [World.cell?, Array.getElem?_eq_none hg] at h

/-- A slice of bytes that came in. -/
theorem open_bytes {t e : TypeId} {base : Nat} {v : Value} {d : DataW H} {p : List MemPlace} (ht : P.underlying t = some (.slice e)) (he : P.underlying e = some (.int .u8)) (hc : P.cellsOf e = 1)
    (hval : Value.okWide P W .any base t v) (h : DataW.Trod enc P W 0 (fun _ => true) true t v d p) :
    ∃ A c xs, v = .slice A xs.length c ∧ xs.length ≤ c ∧ c ≤ maxLen ∧ Lst W W.heap.size A (u8s xs) ∧ St.bts xs := by
  obtain ⟨a, len, cap, rfl⟩ := okWide_slice ht hval
  obtain ⟨fuel, hf⟩ := h
  rcases open_ints ht he hc hf with ⟨hcs, _⟩ | ⟨x, l, c, zs, hcs, _, hl, hm, hz, _, hcell, hwz⟩
  · simp [Value.cells] at hcs
    obtain ⟨rfl, rfl, rfl⟩ := hcs
    exact ⟨none, 0, [], rfl, Nat.le_refl _, by simp [maxLen], .inl rfl, fun x hx => by simp at hx⟩
  · simp [Value.cells] at hcs
    obtain ⟨rfl, rfl, rfl⟩ := hcs
    simp at hz
    have hlen : (zs.take len).length = len := by simp; omega
    refine ⟨some x, cap, zs.take len, by rw [hlen], by omega, hm, ?_, fun y hy => bounds_u8 (hwz y (List.mem_of_mem_take hy))⟩
    rcases Nat.eq_zero_or_pos len with h0 | h0
    · subst h0; exact .inl (by simp)
    · have hc0 := hcell 0 (by omega)
      obtain ⟨b, o, spot⟩ := x
      have hspot : spot = none := by simpa [Addr.add] using World.cell?_spot hc0
      subst hspot
      refine .inr ⟨b, o, rfl, ?_, fun j hj => ?_⟩
      · have := lt_of_cell hc0
        simpa [Addr.add] using this
      · have hj' : j < len := by simp at hj; omega
        have hcj := hcell j (by omega)
        have hplain : (⟨b, o, none⟩ : Addr).add j = ⟨b, o + j, none⟩ := by unfold Addr.add; split <;> simp_all
        rw [hplain] at hcj
        rw [hcj]
        simp [u8s, List.getD, List.getElem?_take, hj', List.getElem?_eq_getElem (show j < zs.length by omega)]

/-- A struct of an int, a uint64 and a bool, by value. -/
theorem open_head {t t0 t1 t2 : TypeId} {f0 f1 f2 : Field} {base : Nat} {v : Value} {d : DataW H} {p : List MemPlace} (hs : P.underlying t = some (.struct #[f0, f1, f2])) (hone : oneCellFields P #[f0, f1, f2] = true) (hC : P.cellsOf t = 3)
    (e0 : f0.type = t0) (e1 : f1.type = t1) (e2 : f2.type = t2) (u0 : P.underlying t0 = some (.int .i64)) (u1 : P.underlying t1 = some (.int .u64)) (u2 : P.underlying t2 = some .bool)
    (hval : Value.okWide P W .any base t v) (h : DataW.Trod enc P W 0 (fun _ => true) true t v d p) :
    ∃ (m n : Int) (o : Bool), v = .agg #[.int .i64 m, .int .u64 n, .bool o] ∧ (-9223372036854775808 ≤ m ∧ m ≤ 9223372036854775807) ∧ (0 ≤ n ∧ n ≤ 18446744073709551615) := by
  obtain ⟨c0, c1, c2, y0, y1, y2, n, rfl, rfl, rfl, h0, h1, h2⟩ := open_agg3 hs hone hC hval h
  subst e0 e1 e2
  obtain ⟨a, r0, _, wa⟩ := DataW.trod_int u0 h0
  obtain ⟨b, r1, _, wb⟩ := DataW.trod_int u1 h1
  obtain ⟨o, r2, _⟩ := DataW.trod_bool u2 h2
  simp at r0 r1 r2
  subst r0 r1 r2
  exact ⟨a, b, o, rfl, bounds_i64 wa, bounds_u64 wb⟩
end
end Go.Proofs.YtbgcbcnidjlhnaaDoor.Fr
