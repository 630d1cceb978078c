/- What the two listed tables of unicode/utf8 give a walk, and a world that meets the condition. -/
import Derived.Test.YtoieadbifhealaaDoorRows
import Derived.Test.YtoieadbifhealaaDoorCbRight
import Derived.Lib.LaidU8T
import Derived.Lib.LaidIn
import Derived.Deep.DeepLaidRun
import Derived.LaidMore
import Derived.Stop.Joined
namespace Go.Proofs.YtoieadbifhealaaDoor.Laid03
open Go.ChangeShapes Go.WideShapes Go.RowKit Go.Shelf Go.Lib CbRight

abbrev laid : List (String × DataW Unit) := [("unicode/utf8.acceptRanges", Rows.laid_unicode_utf8_acceptRanges), ("unicode/utf8.first", Rows.laid_unicode_utf8_first)]
/-- The numbers that the bridge asks for. -/
def ren : Ren := { f := fun x => x, t := fun x => if x = 5 then 5 else if x = 119 then 145 else if x = 138 then 147 else if x = 139 then 148 else x, g := fun x => if x = 3 then 1 else if x = 4 then 2 else x }
theorem types : U8Types Tryd.prog ren := ⟨by kernel_rfl, by kernel_rfl, by kernel_rfl, by kernel_rfl⟩
theorem extra : U8Extra Tryd.prog ren := ⟨by kernel_rfl, by kernel_rfl, by kernel_rfl, by kernel_rfl, by kernel_rfl, by kernel_rfl, by kernel_rfl⟩
theorem first_eq : Rows.laid_unicode_utf8_first = firstData := by kernel_rfl
theorem accept_eq : (Rows.laid_unicode_utf8_acceptRanges : DataW Unit) = acceptData := by kernel_rfl
theorem g_first : Tryd.prog.globalNamed "unicode/utf8.first" = some 1 := by kernel_rfl
theorem g_accept : Tryd.prog.globalNamed "unicode/utf8.acceptRanges" = some 2 := by kernel_rfl

theorem tabs {W : World} (h : laidMetH Tryd.prog laid W) : Tabs W := by
  rw [MakeChecks.laidMetH_plain _ _ _ (by kernel_rfl)] at h
  have h4 := Lib.laidMet.reads h (.head _)
  have h3 := Lib.laidMet.reads h (.tail _ (.head _))
  rw [first_eq] at h3
  rw [accept_eq] at h4
  have hu : Lib.Utf8Tabs 1 2 W := utf8Tabs_of_readsT (ρ := ren) types extra h3 h4
  have lt_of_cell : ∀ {a : Addr} {v : Value}, W.cell? a = some v → a.block < W.heap.size := fun {a v} h => by
    rcases Nat.lt_or_ge a.block W.heap.size with hl | hg
    · exact hl
    · simp [World.cell?, Array.getElem?_eq_none hg] at h
  exact ⟨hu, lt_of_cell (hu.1 0 (by omega)), lt_of_cell (hu.2 0 (by omega)).1⟩

/-- A world that meets the condition: the settled one, the two tables laid. -/
noncomputable def laidWorld (os : Os) : World :=
  let w0 := World.holding Tryd.prog os ⟨#[], #[], []⟩
  let put (h : Array Obj) (g : Nat) (cs : Array Value) : Array Obj := h.modify g fun
    | .cells _ t frozen => .cells cs t frozen
    | o => o
  let h1 := put w0.heap 1 (Lib.firstTab.map fun z => Value.int .u8 z).toArray
  let h2 := put h1 2 ((List.range 16).flatMap fun i => [Value.int .u8 (Lib.accLo i), Value.int .u8 (Lib.accHi i)]).toArray
  { w0 with heap := h2 }
theorem met (os : Os) (args : Array Value) : laidMetH Tryd.prog laid ((laidWorld os).forCall (fun _ _ => 0) ⟨#[], args, []⟩).memory :=
  laidMetH_of_parts (LaidIn.of_run [2, 1] 8 (by kernel_rfl) (by kernel_rfl) (by kernel_rfl) (by kernel_rfl)).met (by kernel_rfl)
end Go.Proofs.YtoieadbifhealaaDoor.Laid03
