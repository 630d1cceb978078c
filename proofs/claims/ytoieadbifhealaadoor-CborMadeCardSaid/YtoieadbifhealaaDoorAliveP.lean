/- The fixed calls of layer 3, plain. No program is named here. -/
import Derived.Test.YtoieadbifhealaaDoorReadB
namespace Go.Proofs.YtoieadbifhealaaDoor.Cb

def x0 : Itm := .mk 4 0 [] [.mk 0 1 [] [], .mk 3 0 [97, 98] []]
theorem right0 : right x0 = true := by decide
theorem sane0 : sane x0 := ⟨by omega, (by intro x hx; cases hx), ⟨by omega, (by intro x hx; cases hx), trivial⟩, ⟨by omega, (by intro x hx; simp at hx; omega), trivial⟩, trivial⟩
theorem enc0 : enc x0 = [130, 1, 98, 97, 98] := by decide
theorem read0 (behind : List Int) : ReadR ([130, 1, 98, 97, 98] ++ behind) 0 (.ok x0 5 253) := by
  have h := read_back x0 behind right0 sane0 (by decide)
  rw [enc0] at h
  exact h
theorem read1 : ReadR [159, 24, 1, 127, 97, 97, 97, 98, 255, 255, 9] 0 (.ok x0 10 253) := by
  refine .item (m := 4) (n := 0) (o := true) (j := 1) (by decide) ?_
  refine .open_ (by omega) (by omega) ?_
  refine .more (m := 0) (n := 1) (o := false) (j := 3) (by decide) (by decide) (.num (by omega) (by omega)) ?_
  refine .more (m := 3) (n := 0) (o := true) (j := 4) (x := .mk 3 0 [97, 98] []) (p' := 9) (l' := 253) (by decide) (by decide) (.body (.inr rfl) (by omega) (by omega) ?_) ?_
  · unfold BodyR
    rw [if_pos rfl]
    refine .more (n := 1) (j := 5) (acc' := [97]) (j' := 6) (l' := 253) (by decide) (by unfold piece; rw [if_neg (by decide), if_neg (by decide)]; rfl) ?_
    refine .more (n := 1) (j := 7) (acc' := [97, 98]) (j' := 8) (l' := 253) (by decide) (by unfold piece; rw [if_neg (by decide), if_neg (by decide)]; rfl) ?_
    exact .stop (a := 7) (n := 0) (o := true) (j := 9) (by decide) (by decide)
  · exact .stop (m := 7) (n := 0) (o := true) (j := 10) (by decide) (by decide)
theorem read2 : ReadR [130, 1] 0 (.err 8) := by
  have h := read_cut x0 2 right0 sane0 (by decide) (by decide)
  rw [enc0] at h
  exact h
theorem read3 : ReadR [129, 32] 0 (.err 3) := by
  refine .item (m := 4) (n := 1) (o := false) (j := 1) (by decide) ?_
  refine .manyE (by omega) (by omega) (by decide) ?_
  exact .cut (m := 1) (n := 0) (o := false) (j := 2) (by decide) (.form (by unfold mayBe; omega))
end Go.Proofs.YtoieadbifhealaaDoor.Cb
