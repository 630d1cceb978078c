/-
  DERIVED. GIVEN WITH THE SEED: THE CARDS: each row of YtoieadbifhealaaDoorRows.lean that lists a variable, with what it lists TIED to the program's text (the seventh form; the later family's looks); each row that meets fmt, with fmt's text TOLD by the authors' own Lean function (tested against real Go, not proved from fmt's source: count such statements apart). THE CARD IS WHAT COUNTS. Prove the row's statement (the work); the ties are given (YtoieadbifhealaaDoorTie.lean); close each card by the builder's one call (the guide's Derived/Test/ToyasCard.lean, 'card_holds'). Laid BY PROGRAM, IN A SANDBOX (cutbox-door.mjs). By AI agents, Wed Nov 11 2026. No macro, syntax, notation, axiom, sorry.
-/
import Derived.Test.YtoieadbifhealaaDoorRows
import GoSem.ClaimSeven
namespace Go.Proofs.YtoieadbifhealaaDoor
namespace Rows

/-- THE TIED CARD OF 'pigeonloftlaw03.CborWrites'. -/
def cborWritesCard : Claim7 := { stood := { row := cborWritesRow, standIns := [], harness := (true, "1f4e87ac245f51944605dcdbffe13bf8ddccddbc3692e48ce2ff1d7ad2cfbc5f"), looks := true }, kinds := [], alts := [], laidByText := true, laidKinds := [.data, .pinned], laidTests := true, laidLooks := .later }
def CborWritesCardSaid : Prop := Claim7.holds Tryd.pinned (.plain (OpenSpec.ofChange cborWritesSpec)) cborWritesCard

/-- THE TIED CARD OF 'pigeonloftlaw03.CborBack'. -/
def cborBackCard : Claim7 := { stood := { row := cborBackRow, standIns := [], harness := (true, "1f4e87ac245f51944605dcdbffe13bf8ddccddbc3692e48ce2ff1d7ad2cfbc5f"), looks := true }, kinds := [], alts := [], laidByText := true, laidKinds := [.data, .pinned], laidTests := true, laidLooks := .later }
def CborBackCardSaid : Prop := Claim7.holds Tryd.pinned (.plain (OpenSpec.ofChange cborBackSpec)) cborBackCard

/-- THE TIED CARD OF 'pigeonloftlaw03.CborMade'. -/
def cborMadeCard : Claim7 := { stood := { row := cborMadeRow, standIns := [], harness := (true, "1f4e87ac245f51944605dcdbffe13bf8ddccddbc3692e48ce2ff1d7ad2cfbc5f"), looks := true }, kinds := [], alts := [], laidByText := true, laidKinds := [.data, .pinned], laidTests := true, laidLooks := .later }
def CborMadeCardSaid : Prop := Claim7.holds Tryd.pinned (.plain (OpenSpec.ofChange cborMadeSpec)) cborMadeCard

/-- THE TIED CARD OF 'pigeonloftlaw03.CborCut'. -/
def cborCutCard : Claim7 := { stood := { row := cborCutRow, standIns := [], harness := (true, "1f4e87ac245f51944605dcdbffe13bf8ddccddbc3692e48ce2ff1d7ad2cfbc5f"), looks := true }, kinds := [], alts := [], laidByText := true, laidKinds := [.data, .pinned], laidTests := true, laidLooks := .later }
def CborCutCardSaid : Prop := Claim7.holds Tryd.pinned (.plain (OpenSpec.ofChange cborCutSpec)) cborCutCard

/-- THE TIED CARD OF 'pigeonloftlaw04.EidWrites'. -/
def eidWritesCard : Claim7 := { stood := { row := eidWritesRow, standIns := [], harness := (true, "1f4e87ac245f51944605dcdbffe13bf8ddccddbc3692e48ce2ff1d7ad2cfbc5f"), looks := true }, kinds := [], alts := [], laidByText := true, laidKinds := [.data, .data, .data, .sentinel, .sentinel], laidTests := true, laidLooks := .later }
def EidWritesCardSaid : Prop := Claim7.holds Tryd.pinned (.plain (OpenSpec.ofChange eidWritesSpec)) eidWritesCard

/-- THE TIED CARD OF 'pigeonloftlaw04.EidReads'. -/
def eidReadsCard : Claim7 := { stood := { row := eidReadsRow, standIns := [], harness := (true, "1f4e87ac245f51944605dcdbffe13bf8ddccddbc3692e48ce2ff1d7ad2cfbc5f"), looks := true }, kinds := [], alts := [], laidByText := true, laidKinds := [.data, .data, .data, .sentinel, .sentinel], laidTests := true, laidLooks := .later }
def EidReadsCardSaid : Prop := Claim7.holds Tryd.pinned (.plain (OpenSpec.ofChange eidReadsSpec)) eidReadsCard

/-- THE TIED CARD OF 'pigeonloftlaw04.EidBack'. -/
def eidBackCard : Claim7 := { stood := { row := eidBackRow, standIns := [], harness := (true, "1f4e87ac245f51944605dcdbffe13bf8ddccddbc3692e48ce2ff1d7ad2cfbc5f"), looks := true }, kinds := [], alts := [], laidByText := true, laidKinds := [.data, .data, .data, .sentinel, .sentinel], laidTests := true, laidLooks := .later }
def EidBackCardSaid : Prop := Claim7.holds Tryd.pinned (.plain (OpenSpec.ofChange eidBackSpec)) eidBackCard

/-- THE TIED CARD OF 'pigeonloftlaw04.EidOrder'. -/
def eidOrderCard : Claim7 := { stood := { row := eidOrderRow, standIns := [], harness := (true, "1f4e87ac245f51944605dcdbffe13bf8ddccddbc3692e48ce2ff1d7ad2cfbc5f"), looks := true }, kinds := [], alts := [], laidByText := true, laidKinds := [.data, .data, .data, .sentinel, .sentinel], laidTests := true, laidLooks := .later }
def EidOrderCardSaid : Prop := Claim7.holds Tryd.pinned (.plain (OpenSpec.ofChange eidOrderSpec)) eidOrderCard

/-- THE TIED CARD OF 'pigeonloftlaw04.EidTexts'. -/
def eidTextsCard : Claim7 := { stood := { row := eidTextsRow, standIns := [], harness := (true, "1f4e87ac245f51944605dcdbffe13bf8ddccddbc3692e48ce2ff1d7ad2cfbc5f"), looks := true }, kinds := [], alts := [], laidByText := true, laidKinds := [.data, .data, .data, .sentinel, .sentinel], laidTests := true, laidLooks := .later }
def EidTextsCardSaid : Prop := Claim7.holds Tryd.pinned (.plain (OpenSpec.ofChange eidTextsSpec)) eidTextsCard

/-- THE SECOND FORM's CARD OF 'pigeonloftlaw03.CborWrites'. -/
def cborWritesUptoCard : Claim7 := { stood := { row := cborWritesUptoRow, standIns := [], harness := (true, "1f4e87ac245f51944605dcdbffe13bf8ddccddbc3692e48ce2ff1d7ad2cfbc5f"), looks := true }, kinds := [], alts := [], laidByText := true, laidKinds := [.data, .pinned], laidTests := true, laidLooks := .later }
def CborWritesUptoCardSaid : Prop := Claim7.holds Tryd.pinned (.plain (OpenSpec.upto cborWritesSpec)) cborWritesUptoCard

/-- THE SECOND FORM's CARD OF 'pigeonloftlaw03.CborBack'. -/
def cborBackUptoCard : Claim7 := { stood := { row := cborBackUptoRow, standIns := [], harness := (true, "1f4e87ac245f51944605dcdbffe13bf8ddccddbc3692e48ce2ff1d7ad2cfbc5f"), looks := true }, kinds := [], alts := [], laidByText := true, laidKinds := [.data, .pinned], laidTests := true, laidLooks := .later }
def CborBackUptoCardSaid : Prop := Claim7.holds Tryd.pinned (.plain (OpenSpec.upto cborBackSpec)) cborBackUptoCard

/-- THE SECOND FORM's CARD OF 'pigeonloftlaw03.CborMade'. -/
def cborMadeUptoCard : Claim7 := { stood := { row := cborMadeUptoRow, standIns := [], harness := (true, "1f4e87ac245f51944605dcdbffe13bf8ddccddbc3692e48ce2ff1d7ad2cfbc5f"), looks := true }, kinds := [], alts := [], laidByText := true, laidKinds := [.data, .pinned], laidTests := true, laidLooks := .later }
def CborMadeUptoCardSaid : Prop := Claim7.holds Tryd.pinned (.plain (OpenSpec.upto cborMadeSpec)) cborMadeUptoCard

/-- THE SECOND FORM's CARD OF 'pigeonloftlaw03.CborCut'. -/
def cborCutUptoCard : Claim7 := { stood := { row := cborCutUptoRow, standIns := [], harness := (true, "1f4e87ac245f51944605dcdbffe13bf8ddccddbc3692e48ce2ff1d7ad2cfbc5f"), looks := true }, kinds := [], alts := [], laidByText := true, laidKinds := [.data, .pinned], laidTests := true, laidLooks := .later }
def CborCutUptoCardSaid : Prop := Claim7.holds Tryd.pinned (.plain (OpenSpec.upto cborCutSpec)) cborCutUptoCard

/-- THE SECOND FORM's CARD OF 'pigeonloftlaw04.EidWrites'. -/
def eidWritesUptoCard : Claim7 := { stood := { row := eidWritesUptoRow, standIns := [], harness := (true, "1f4e87ac245f51944605dcdbffe13bf8ddccddbc3692e48ce2ff1d7ad2cfbc5f"), looks := true }, kinds := [], alts := [], laidByText := true, laidKinds := [.data, .data, .data, .sentinel, .sentinel], laidTests := true, laidLooks := .later }
def EidWritesUptoCardSaid : Prop := Claim7.holds Tryd.pinned (.plain (OpenSpec.upto eidWritesSpec)) eidWritesUptoCard

/-- THE SECOND FORM's CARD OF 'pigeonloftlaw04.EidReads'. -/
def eidReadsUptoCard : Claim7 := { stood := { row := eidReadsUptoRow, standIns := [], harness := (true, "1f4e87ac245f51944605dcdbffe13bf8ddccddbc3692e48ce2ff1d7ad2cfbc5f"), looks := true }, kinds := [], alts := [], laidByText := true, laidKinds := [.data, .data, .data, .sentinel, .sentinel], laidTests := true, laidLooks := .later }
def EidReadsUptoCardSaid : Prop := Claim7.holds Tryd.pinned (.plain (OpenSpec.upto eidReadsSpec)) eidReadsUptoCard

/-- THE SECOND FORM's CARD OF 'pigeonloftlaw04.EidBack'. -/
def eidBackUptoCard : Claim7 := { stood := { row := eidBackUptoRow, standIns := [], harness := (true, "1f4e87ac245f51944605dcdbffe13bf8ddccddbc3692e48ce2ff1d7ad2cfbc5f"), looks := true }, kinds := [], alts := [], laidByText := true, laidKinds := [.data, .data, .data, .sentinel, .sentinel], laidTests := true, laidLooks := .later }
def EidBackUptoCardSaid : Prop := Claim7.holds Tryd.pinned (.plain (OpenSpec.upto eidBackSpec)) eidBackUptoCard

/-- THE SECOND FORM's CARD OF 'pigeonloftlaw04.EidOrder'. -/
def eidOrderUptoCard : Claim7 := { stood := { row := eidOrderUptoRow, standIns := [], harness := (true, "1f4e87ac245f51944605dcdbffe13bf8ddccddbc3692e48ce2ff1d7ad2cfbc5f"), looks := true }, kinds := [], alts := [], laidByText := true, laidKinds := [.data, .data, .data, .sentinel, .sentinel], laidTests := true, laidLooks := .later }
def EidOrderUptoCardSaid : Prop := Claim7.holds Tryd.pinned (.plain (OpenSpec.upto eidOrderSpec)) eidOrderUptoCard

/-- THE SECOND FORM's CARD OF 'pigeonloftlaw04.EidTexts'. -/
def eidTextsUptoCard : Claim7 := { stood := { row := eidTextsUptoRow, standIns := [], harness := (true, "1f4e87ac245f51944605dcdbffe13bf8ddccddbc3692e48ce2ff1d7ad2cfbc5f"), looks := true }, kinds := [], alts := [], laidByText := true, laidKinds := [.data, .data, .data, .sentinel, .sentinel], laidTests := true, laidLooks := .later }
def EidTextsUptoCardSaid : Prop := Claim7.holds Tryd.pinned (.plain (OpenSpec.upto eidTextsSpec)) eidTextsUptoCard
end Rows
end Go.Proofs.YtoieadbifhealaaDoor
