/-
  DERIVED. GIVEN WITH THE SEED: THE CARDS: each row of YtbgcbcnidjlhnaaDoorRows.lean that lists a variable, with what it lists TIED to the program's text (the seventh form; the later family's looks); each row that meets fmt, with fmt's text TOLD by the authors' own Lean function (tested against real Go, not proved from fmt's source: count such statements apart). THE CARD IS WHAT COUNTS. Prove the row's statement (the work); the ties are given (YtbgcbcnidjlhnaaDoorTie.lean); close each card by the builder's one call (the guide's Derived/Test/ToyasCard.lean, 'card_holds'). Laid BY PROGRAM, IN A SANDBOX (cutbox-door.mjs). By AI agents, Wed Nov 11 2026. No macro, syntax, notation, axiom, sorry.
-/
import Derived.Test.YtbgcbcnidjlhnaaDoorRows
import GoSem.ClaimSeven
namespace Go.Proofs.YtbgcbcnidjlhnaaDoor
namespace Rows

/-- THE TIED CARD OF 'pigeonloftlaw05.IdentTells'. -/
def identTellsCard : Claim7 := { stood := { row := identTellsRow, standIns := [], harness := (true, "dc709d08d9a33b99eb02762e29cccb9e4efdf54a04f62944eeb3b3271755440e"), looks := false }, kinds := [], alts := [], laidByText := true, laidKinds := [.data, .data, .data], laidTests := true, laidLooks := .later }
def IdentTellsCardSaid : Prop := Claim7.holds Tryd.pinned (.plain (OpenSpec.ofChange identTellsSpec)) identTellsCard

/-- THE TIED CARD OF 'pigeonloftlaw05.IdentMakes'. -/
def identMakesCard : Claim7 := { stood := { row := identMakesRow, standIns := [], harness := (true, "dc709d08d9a33b99eb02762e29cccb9e4efdf54a04f62944eeb3b3271755440e"), looks := false }, kinds := [], alts := [], laidByText := true, laidKinds := [.data, .data, .data], laidTests := true, laidLooks := .later }
def IdentMakesCardSaid : Prop := Claim7.holds Tryd.pinned (.plain (OpenSpec.ofChange identMakesSpec)) identMakesCard

/-- THE TIED CARD OF 'pigeonloftlaw05.IdentBack'. -/
def identBackCard : Claim7 := { stood := { row := identBackRow, standIns := [], harness := (true, "dc709d08d9a33b99eb02762e29cccb9e4efdf54a04f62944eeb3b3271755440e"), looks := false }, kinds := [], alts := [], laidByText := true, laidKinds := [.data, .data, .data], laidTests := true, laidLooks := .later }
def IdentBackCardSaid : Prop := Claim7.holds Tryd.pinned (.plain (OpenSpec.ofChange identBackSpec)) identBackCard

/-- THE TIED CARD OF 'pigeonloftlaw05.IdentRises'. -/
def identRisesCard : Claim7 := { stood := { row := identRisesRow, standIns := [], harness := (true, "dc709d08d9a33b99eb02762e29cccb9e4efdf54a04f62944eeb3b3271755440e"), looks := false }, kinds := [], alts := [], laidByText := true, laidKinds := [.data, .data, .data], laidTests := true, laidLooks := .later }
def IdentRisesCardSaid : Prop := Claim7.holds Tryd.pinned (.plain (OpenSpec.ofChange identRisesSpec)) identRisesCard

/-- THE TIED CARD OF 'pigeonloftlaw05.IdentOrder'. -/
def identOrderCard : Claim7 := { stood := { row := identOrderRow, standIns := [], harness := (true, "dc709d08d9a33b99eb02762e29cccb9e4efdf54a04f62944eeb3b3271755440e"), looks := false }, kinds := [], alts := [], laidByText := true, laidKinds := [.data, .data, .data], laidTests := true, laidLooks := .later }
def IdentOrderCardSaid : Prop := Claim7.holds Tryd.pinned (.plain (OpenSpec.ofChange identOrderSpec)) identOrderCard

/-- THE TIED CARD OF 'pigeonloftlaw06.PrimarySeals'. -/
def primarySealsCard : Claim7 := { stood := { row := primarySealsRow, standIns := [], harness := (true, "dc709d08d9a33b99eb02762e29cccb9e4efdf54a04f62944eeb3b3271755440e"), looks := false }, kinds := [], alts := [], laidByText := true, laidKinds := [.data, .data, .pinned], laidTests := true, laidLooks := .later }
def PrimarySealsCardSaid : Prop := Claim7.holds Tryd.pinned (.plain (OpenSpec.ofChange primarySealsSpec)) primarySealsCard

/-- THE TIED CARD OF 'pigeonloftlaw06.PrimaryBack'. -/
def primaryBackCard : Claim7 := { stood := { row := primaryBackRow, standIns := [], harness := (true, "dc709d08d9a33b99eb02762e29cccb9e4efdf54a04f62944eeb3b3271755440e"), looks := false }, kinds := [], alts := [], laidByText := true, laidKinds := [.data, .data, .pinned], laidTests := true, laidLooks := .later }
def PrimaryBackCardSaid : Prop := Claim7.holds Tryd.pinned (.plain (OpenSpec.ofChange primaryBackSpec)) primaryBackCard

/-- THE TIED CARD OF 'pigeonloftlaw06.PrimaryTurned'. -/
def primaryTurnedCard : Claim7 := { stood := { row := primaryTurnedRow, standIns := [], harness := (true, "dc709d08d9a33b99eb02762e29cccb9e4efdf54a04f62944eeb3b3271755440e"), looks := false }, kinds := [], alts := [], laidByText := true, laidKinds := [.data, .data, .pinned], laidTests := true, laidLooks := .later }
def PrimaryTurnedCardSaid : Prop := Claim7.holds Tryd.pinned (.plain (OpenSpec.ofChange primaryTurnedSpec)) primaryTurnedCard

/-- THE TIED CARD OF 'pigeonloftlaw06.PrimarySums'. -/
def primarySumsCard : Claim7 := { stood := { row := primarySumsRow, standIns := [], harness := (true, "dc709d08d9a33b99eb02762e29cccb9e4efdf54a04f62944eeb3b3271755440e"), looks := false }, kinds := [], alts := [], laidByText := true, laidKinds := [.data, .data, .pinned], laidTests := true, laidLooks := .later }
def PrimarySumsCardSaid : Prop := Claim7.holds Tryd.pinned (.plain (OpenSpec.ofChange primarySumsSpec)) primarySumsCard

/-- THE SECOND FORM's CARD OF 'pigeonloftlaw05.IdentTells'. -/
def identTellsUptoCard : Claim7 := { stood := { row := identTellsUptoRow, standIns := [], harness := (true, "dc709d08d9a33b99eb02762e29cccb9e4efdf54a04f62944eeb3b3271755440e"), looks := false }, kinds := [], alts := [], laidByText := true, laidKinds := [.data, .data, .data], laidTests := true, laidLooks := .later }
def IdentTellsUptoCardSaid : Prop := Claim7.holds Tryd.pinned (.plain (OpenSpec.upto identTellsSpec)) identTellsUptoCard

/-- THE SECOND FORM's CARD OF 'pigeonloftlaw05.IdentMakes'. -/
def identMakesUptoCard : Claim7 := { stood := { row := identMakesUptoRow, standIns := [], harness := (true, "dc709d08d9a33b99eb02762e29cccb9e4efdf54a04f62944eeb3b3271755440e"), looks := false }, kinds := [], alts := [], laidByText := true, laidKinds := [.data, .data, .data], laidTests := true, laidLooks := .later }
def IdentMakesUptoCardSaid : Prop := Claim7.holds Tryd.pinned (.plain (OpenSpec.upto identMakesSpec)) identMakesUptoCard

/-- THE SECOND FORM's CARD OF 'pigeonloftlaw05.IdentBack'. -/
def identBackUptoCard : Claim7 := { stood := { row := identBackUptoRow, standIns := [], harness := (true, "dc709d08d9a33b99eb02762e29cccb9e4efdf54a04f62944eeb3b3271755440e"), looks := false }, kinds := [], alts := [], laidByText := true, laidKinds := [.data, .data, .data], laidTests := true, laidLooks := .later }
def IdentBackUptoCardSaid : Prop := Claim7.holds Tryd.pinned (.plain (OpenSpec.upto identBackSpec)) identBackUptoCard

/-- THE SECOND FORM's CARD OF 'pigeonloftlaw05.IdentRises'. -/
def identRisesUptoCard : Claim7 := { stood := { row := identRisesUptoRow, standIns := [], harness := (true, "dc709d08d9a33b99eb02762e29cccb9e4efdf54a04f62944eeb3b3271755440e"), looks := false }, kinds := [], alts := [], laidByText := true, laidKinds := [.data, .data, .data], laidTests := true, laidLooks := .later }
def IdentRisesUptoCardSaid : Prop := Claim7.holds Tryd.pinned (.plain (OpenSpec.upto identRisesSpec)) identRisesUptoCard

/-- THE SECOND FORM's CARD OF 'pigeonloftlaw05.IdentOrder'. -/
def identOrderUptoCard : Claim7 := { stood := { row := identOrderUptoRow, standIns := [], harness := (true, "dc709d08d9a33b99eb02762e29cccb9e4efdf54a04f62944eeb3b3271755440e"), looks := false }, kinds := [], alts := [], laidByText := true, laidKinds := [.data, .data, .data], laidTests := true, laidLooks := .later }
def IdentOrderUptoCardSaid : Prop := Claim7.holds Tryd.pinned (.plain (OpenSpec.upto identOrderSpec)) identOrderUptoCard

/-- THE SECOND FORM's CARD OF 'pigeonloftlaw06.PrimarySeals'. -/
def primarySealsUptoCard : Claim7 := { stood := { row := primarySealsUptoRow, standIns := [], harness := (true, "dc709d08d9a33b99eb02762e29cccb9e4efdf54a04f62944eeb3b3271755440e"), looks := false }, kinds := [], alts := [], laidByText := true, laidKinds := [.data, .data, .pinned], laidTests := true, laidLooks := .later }
def PrimarySealsUptoCardSaid : Prop := Claim7.holds Tryd.pinned (.plain (OpenSpec.upto primarySealsSpec)) primarySealsUptoCard

/-- THE SECOND FORM's CARD OF 'pigeonloftlaw06.PrimaryBack'. -/
def primaryBackUptoCard : Claim7 := { stood := { row := primaryBackUptoRow, standIns := [], harness := (true, "dc709d08d9a33b99eb02762e29cccb9e4efdf54a04f62944eeb3b3271755440e"), looks := false }, kinds := [], alts := [], laidByText := true, laidKinds := [.data, .data, .pinned], laidTests := true, laidLooks := .later }
def PrimaryBackUptoCardSaid : Prop := Claim7.holds Tryd.pinned (.plain (OpenSpec.upto primaryBackSpec)) primaryBackUptoCard

/-- THE SECOND FORM's CARD OF 'pigeonloftlaw06.PrimaryTurned'. -/
def primaryTurnedUptoCard : Claim7 := { stood := { row := primaryTurnedUptoRow, standIns := [], harness := (true, "dc709d08d9a33b99eb02762e29cccb9e4efdf54a04f62944eeb3b3271755440e"), looks := false }, kinds := [], alts := [], laidByText := true, laidKinds := [.data, .data, .pinned], laidTests := true, laidLooks := .later }
def PrimaryTurnedUptoCardSaid : Prop := Claim7.holds Tryd.pinned (.plain (OpenSpec.upto primaryTurnedSpec)) primaryTurnedUptoCard

/-- THE SECOND FORM's CARD OF 'pigeonloftlaw06.PrimarySums'. -/
def primarySumsUptoCard : Claim7 := { stood := { row := primarySumsUptoRow, standIns := [], harness := (true, "dc709d08d9a33b99eb02762e29cccb9e4efdf54a04f62944eeb3b3271755440e"), looks := false }, kinds := [], alts := [], laidByText := true, laidKinds := [.data, .data, .pinned], laidTests := true, laidLooks := .later }
def PrimarySumsUptoCardSaid : Prop := Claim7.holds Tryd.pinned (.plain (OpenSpec.upto primarySumsSpec)) primarySumsUptoCard
end Rows
end Go.Proofs.YtbgcbcnidjlhnaaDoor
