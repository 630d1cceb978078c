/-
  DERIVED. GIVEN WITH THE SEED: THE CARDS: each row of YthknkdphofjmhaaDoorRows.lean that lists a variable, with what it lists TIED to the program's text (the seventh form; the later family's looks); each row that meets fmt, with fmt's text TOLD by the authors' own Lean function (tested against real Go, not proved from fmt's source: count such statements apart). THE CARD IS WHAT COUNTS. Prove the row's statement (the work); the ties are given (YthknkdphofjmhaaDoorTie.lean); close each card by the builder's one call (the guide's Derived/Test/ToyasCard.lean, 'card_holds'). Laid BY PROGRAM, IN A SANDBOX (cutbox-door.mjs). By AI agents, Wed Nov 11 2026. No macro, syntax, notation, axiom, sorry.
-/
import Derived.Test.YthknkdphofjmhaaDoorRows
import GoSem.ClaimSeven
namespace Go.Proofs.YthknkdphofjmhaaDoor
namespace Rows

/-- THE TIED CARD OF 'pigeonloftlaw06.PrimarySeals'. -/
def primarySealsCard : Claim7 := { stood := { row := primarySealsRow, standIns := [], harness := (true, "58763df999c5a3e476a7a9845d3a6d43c0e1686305302ed6e9bf6b082f46a95d"), looks := true }, kinds := [], alts := [], laidByText := true, laidKinds := [.data, .data, .pinned], laidTests := true, laidLooks := .later }
def PrimarySealsCardSaid : Prop := Claim7.holds Tryd.pinned (.plain (OpenSpec.ofChange primarySealsSpec)) primarySealsCard

/-- THE TIED CARD OF 'pigeonloftlaw07.CanonBack'. -/
def canonBackCard : Claim7 := { stood := { row := canonBackRow, standIns := [], harness := (true, "58763df999c5a3e476a7a9845d3a6d43c0e1686305302ed6e9bf6b082f46a95d"), looks := true }, kinds := [], alts := [], laidByText := true, laidKinds := [.data, .data, .pinned], laidTests := true, laidLooks := .later }
def CanonBackCardSaid : Prop := Claim7.holds Tryd.pinned (.plain (OpenSpec.ofChange canonBackSpec)) canonBackCard

/-- THE TIED CARD OF 'pigeonloftlaw07.CanonMore'. -/
def canonMoreCard : Claim7 := { stood := { row := canonMoreRow, standIns := [], harness := (true, "58763df999c5a3e476a7a9845d3a6d43c0e1686305302ed6e9bf6b082f46a95d"), looks := true }, kinds := [], alts := [], laidByText := true, laidKinds := [.data, .data, .pinned], laidTests := true, laidLooks := .later }
def CanonMoreCardSaid : Prop := Claim7.holds Tryd.pinned (.plain (OpenSpec.ofChange canonMoreSpec)) canonMoreCard

/-- THE SECOND FORM's CARD OF 'pigeonloftlaw06.PrimarySeals'. -/
def primarySealsUptoCard : Claim7 := { stood := { row := primarySealsUptoRow, standIns := [], harness := (true, "58763df999c5a3e476a7a9845d3a6d43c0e1686305302ed6e9bf6b082f46a95d"), looks := true }, kinds := [], alts := [], laidByText := true, laidKinds := [.data, .data, .pinned], laidTests := true, laidLooks := .later }
def PrimarySealsUptoCardSaid : Prop := Claim7.holds Tryd.pinned (.plain (OpenSpec.upto primarySealsSpec)) primarySealsUptoCard

/-- THE SECOND FORM's CARD OF 'pigeonloftlaw07.CanonBack'. -/
def canonBackUptoCard : Claim7 := { stood := { row := canonBackUptoRow, standIns := [], harness := (true, "58763df999c5a3e476a7a9845d3a6d43c0e1686305302ed6e9bf6b082f46a95d"), looks := true }, kinds := [], alts := [], laidByText := true, laidKinds := [.data, .data, .pinned], laidTests := true, laidLooks := .later }
def CanonBackUptoCardSaid : Prop := Claim7.holds Tryd.pinned (.plain (OpenSpec.upto canonBackSpec)) canonBackUptoCard

/-- THE SECOND FORM's CARD OF 'pigeonloftlaw07.CanonMore'. -/
def canonMoreUptoCard : Claim7 := { stood := { row := canonMoreUptoRow, standIns := [], harness := (true, "58763df999c5a3e476a7a9845d3a6d43c0e1686305302ed6e9bf6b082f46a95d"), looks := true }, kinds := [], alts := [], laidByText := true, laidKinds := [.data, .data, .pinned], laidTests := true, laidLooks := .later }
def CanonMoreUptoCardSaid : Prop := Claim7.holds Tryd.pinned (.plain (OpenSpec.upto canonMoreSpec)) canonMoreUptoCard
end Rows
end Go.Proofs.YthknkdphofjmhaaDoor
