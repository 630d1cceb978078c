/- An opener of a slice of slices of bytes. No program is named here. -/
import Derived.Test.YtgjihjijlhdjdaaFrame
import Derived.Deep.Slices
namespace Go.Proofs.Ytgjihjijlhdjdaa.Fr
open Go.ChangeShapes Go.WideShapes Go.ChangeAt Go.RowKit Go.Joins Go.Deep Wd

section
variable {H : Type} {enc : TypeId × Value → H} {P : Program} {W : World}

/-- One text among others. -/
def Txt (W : World) (B : Nat) (v : Value) : Prop := ∃ A c xs, v = .slice A xs.length c ∧ xs.length ≤ c ∧ c ≤ maxLen ∧ Lst W B A (u8s xs) ∧ St.bts xs

theorem open_txt {t e : TypeId} {fuel : Nat} {v : Value} {x : DataW H × List MemPlace} (ht : P.underlying t = some (.slice e)) (he : P.underlying e = some (.int .u8)) (hc : P.cellsOf e = 1)
    (h : DataW.trod enc P W 0 (fun _ => true) true fuel t [v] = some x) : Txt W W.heap.size v := by
  rcases open_ints ht he hc h with ⟨hcs, _⟩ | ⟨x, len, cap, zs, hcs, _, hl, hm, hz, _, hcell, hwz⟩
  · injection hcs with hcs
    exact ⟨none, 0, [], hcs, Nat.le_refl _, by simp [maxLen], .inl rfl, fun x hx => by simp at hx⟩
  · injection hcs with hcs
    subst hcs
    simp at hz
    have hlen : (zs.take len).length = len := by simp; omega
    refine ⟨some x, cap, zs.take len, by rw [hlen], by omega, hm, ?_, fun y hy => bounds_u8 (hwz y (List.mem_of_mem_take hy))⟩
    rcases Nat.eq_zero_or_pos len with h0 | h0
    · subst h0; exact .inl (by simp)
    · have hc0 := hcell 0 (by omega)
      obtain ⟨b, o, spot⟩ := x
      have hspot : spot = none := by simpa [Addr.add] using World.cell?_spot hc0
      subst hspot
      refine .inr ⟨b, o, rfl, ?_, fun j hj => ?_⟩
      · have := lt_of_cell hc0
        simpa [Addr.add] using this
      · have hj' : j < len := by simp at hj; omega
        have hcj := hcell j (by omega)
        have hplain : (⟨b, o, none⟩ : Addr).add j = ⟨b, o + j, none⟩ := by unfold Addr.add; split <;> simp_all
        rw [hplain] at hcj
        rw [hcj]
        simp [u8s, List.getD, List.getElem?_take, hj', List.getElem?_eq_getElem (show j < zs.length by omega)]

/-- A slice of such slices. -/
theorem open_rows {t e f : TypeId} {base : Nat} {v : Value} {d : DataW H} {p : List MemPlace} (ht : P.underlying t = some (.slice e)) (he : P.underlying e = some (.slice f)) (hf : P.underlying f = some (.int .u8)) (hce : P.cellsOf e = 1) (hc : P.cellsOf f = 1)
    (hval : Value.okWide P W .any base t v) (h : DataW.Trod enc P W 0 (fun _ => true) true t v d p) :
    ∃ A c vs, v = .slice A vs.length c ∧ vs.length ≤ c ∧ c ≤ maxLen ∧ Lst W W.heap.size A vs ∧ ∀ u ∈ vs, Txt W W.heap.size u := by
  obtain ⟨a, len, cap, rfl⟩ := okWide_slice ht hval
  obtain ⟨fuel, hx⟩ := h
  rcases open_slice1 ht hce hx with ⟨hcs, _⟩ | ⟨x, l, c, m, n, V, D, Pl, hcs, _, hl, hm, hmm, _, hall⟩
  · simp [Value.cells] at hcs
    obtain ⟨rfl, rfl, rfl⟩ := hcs
    exact ⟨none, 0, [], rfl, Nat.le_refl _, by simp [maxLen], .inl rfl, fun x hx => by simp at hx⟩
  · simp [Value.cells] at hcs
    obtain ⟨rfl, rfl, rfl⟩ := hcs
    simp at hmm
    have hlen : ((List.range len).map V).length = len := by simp
    refine ⟨some x, cap, (List.range len).map V, by rw [hlen], by omega, hm, ?_, fun u hu => ?_⟩
    · rcases Nat.eq_zero_or_pos len with h0 | h0
      · subst h0; exact .inl (by simp)
      · have hc0 := (hall 0 (by omega)).1
        obtain ⟨b, o, spot⟩ := x
        have hspot : spot = none := by simpa [Addr.add] using World.cell?_spot hc0
        subst hspot
        refine .inr ⟨b, o, rfl, ?_, fun j hj => ?_⟩
        · have := lt_of_cell hc0
          simpa [Addr.add] using this
        · have hj' : j < len := by simpa using hj
          have hcj := (hall j (by omega)).1
          have hplain : (⟨b, o, none⟩ : Addr).add j = ⟨b, o + j, none⟩ := by unfold Addr.add; split <;> simp_all
          rw [hplain] at hcj
          rw [hcj]
          simp [hj']
    · simp only [List.mem_map, List.mem_range] at hu
      obtain ⟨i, hi, rfl⟩ := hu
      exact open_txt he hf hc (hall i (by omega)).2
end
end Go.Proofs.Ytgjihjijlhdjdaa.Fr
