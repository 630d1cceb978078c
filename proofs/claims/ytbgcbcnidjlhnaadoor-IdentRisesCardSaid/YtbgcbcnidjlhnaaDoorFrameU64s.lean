/- The opener of a slice of uint64 that came in. -/
import Derived.Test.YtbgcbcnidjlhnaaDoorFrame
namespace Go.Proofs.YtbgcbcnidjlhnaaDoor.Fr
open Go.ChangeShapes Go.WideShapes Go.ChangeAt Go.RowKit Go.Joins Go.Deep Wd
abbrev u64s (xs : List Int) : List Value := xs.map (Value.int .u64)
section
variable {H : Type} {enc : TypeId × Value → H} {P : Program} {W : World}
theorem u64s_at {w : World} {B : Nat} {A : Option Addr} {xs : List Int} (h : Lst w B A (u64s xs)) {k : Nat} (hk : k < xs.length) : ∃ b o, A = some ⟨b, o, none⟩ ∧ b < B ∧ w.cell? ⟨b, o + k, none⟩ = some (.int .u64 xs[k]) := by
  obtain ⟨b, o, e, hb, hc⟩ := h.at_ (k := k) (by simpa using hk)
  refine ⟨b, o, e, hb, ?_⟩
  rw [hc k (by simpa using hk)]
  simp [hk]
/-- A slice of uint64 that came in. -/
theorem open_u64s {t e : TypeId} {base : Nat} {v : Value} {d : DataW H} {p : List MemPlace} (ht : P.underlying t = some (.slice e)) (he : P.underlying e = some (.int .u64)) (hc : P.cellsOf e = 1)
    (hval : Value.okWide P W .any base t v) (h : DataW.Trod enc P W 0 (fun _ => true) true t v d p) :
    ∃ A c xs, v = .slice A (List.length xs) c ∧ xs.length ≤ c ∧ c ≤ maxLen ∧ Lst W W.heap.size A (u64s xs) ∧ ∀ y ∈ xs, 0 ≤ y ∧ y ≤ 18446744073709551615 := by
  obtain ⟨a, len, cap, rfl⟩ := okWide_slice ht hval
  obtain ⟨fuel, hf⟩ := h
  rcases open_ints ht he hc hf with ⟨hcs, _⟩ | ⟨x, l, c, zs, hcs, _, hl, hm, hz, _, hcell, hwz⟩
  · simp [Value.cells] at hcs
    obtain ⟨rfl, rfl, rfl⟩ := hcs
    exact ⟨none, 0, [], rfl, Nat.le_refl _, by simp [maxLen], .inl rfl, fun x hx => by simp at hx⟩
  · simp [Value.cells] at hcs
    obtain ⟨rfl, rfl, rfl⟩ := hcs
    simp at hz
    have hlen : (zs.take len).length = len := by simp; omega
    refine ⟨some x, cap, zs.take len, by rw [hlen], by omega, hm, ?_, fun y hy => bounds_u64 (hwz y (List.mem_of_mem_take hy))⟩
    rcases Nat.eq_zero_or_pos len with h0 | h0
    · subst h0; exact .inl (by simp)
    · have hc0 := hcell 0 (by omega)
      obtain ⟨b, o, spot⟩ := x
      have hspot : spot = none := by simpa [Addr.add] using World.cell?_spot hc0
      subst hspot
      refine .inr ⟨b, o, rfl, ?_, fun j hj => ?_⟩
      · have := lt_of_cell hc0
        simpa [Addr.add] using this
      · have hj' : j < len := by simp at hj; omega
        have hcj := hcell j (by omega)
        have hplain : (⟨b, o, none⟩ : Addr).add j = ⟨b, o + j, none⟩ := by unfold Addr.add; split <;> simp_all
        rw [hplain] at hcj
        rw [hcj]
        simp [u64s, List.getD, List.getElem?_take, hj', List.getElem?_eq_getElem (show j < zs.length by omega)]
end
end Go.Proofs.YtbgcbcnidjlhnaaDoor.Fr
