/-
  NARROWER THAN 'FOR EVERY INPUT', by the rows' own cells (each row's printed sentence says how): PrimarySeals: loops, laid · CanonBack: loops, laid · CanonMore: laid.
  DERIVED. THE GIVEN ROWS OF THIS SEAT. 3 by the template 'for every input the law returns true; each argument reads behind the call as it read before'; 0 by the template 'total and deterministic' (their statements: YthknkdphofjmhaaDoorTotals.lean).
  GIVEN WITH THE SEED: the statements are not yours to turn. If you find one false, say at which input.
  Laid BY PROGRAM, IN A SANDBOX (cutbox-rows.mjs): the forced cells as the released guide's own fill.sh prints them over the translation 9ede1e917ea01342… (all of the seat's roots in one cut). By AI agents, Wed Nov 11 2026. No macro, syntax, notation, axiom, sorry.
-/
import Derived.Test.YthknkdphofjmhaaDoorChecked
import GoSem.PinnedTables
import GoSem.Claim
import GoSem.ClaimJoined
import GoSem.ClaimMapViews
import Derived.JoinedTies
import Derived.KernelRfl
namespace Go.Proofs.YthknkdphofjmhaaDoor
/- THE CELL 'sum', in the pinned program and in every row, IS THE sha256 OF THE DUMP (.gsa) THAT YthknkdphofjmhaaDoorProg.lean LOADS. Nothing in Lean hashes anything: it is a label: what it is worth is what the hold of that sum in a sandbox is worth. -/
noncomputable def Tryd.pinned : Pinned := { name := "ythknkdphofjmhaadoor", sum := "9ede1e917ea01342f1ec51f3a997bcef9f87a3d851468c2959fd149a3b108a56", checked := Tryd.checked }
namespace Rows
def none {H : Type} : Left H := { results := [], args := [] }

/- WHAT THE LISTED PACKAGE-LEVEL VARIABLES READ AS WHEN THE CALL BEGINS. Each datum BY PROGRAM (the guide's laid-datum.mjs) off the statement by which the dump's own 'gosem.cut.vars' lays the variable. In a bare row this is a premise. The card (YthknkdphofjmhaaDoorCards.lean) ties it to the program's text. -/
def laid_unicode_utf8_acceptRanges {H : Type} : DataW H := .agg [.agg [.lit (.int .u8 128), .lit (.int .u8 191)], .agg [.lit (.int .u8 160), .lit (.int .u8 191)], .agg [.lit (.int .u8 128), .lit (.int .u8 159)], .agg [.lit (.int .u8 144), .lit (.int .u8 191)], .agg [.lit (.int .u8 128), .lit (.int .u8 143)], .agg [.lit (.int .u8 0), .lit (.int .u8 0)], .agg [.lit (.int .u8 0), .lit (.int .u8 0)], .agg [.lit (.int .u8 0), .lit (.int .u8 0)], .agg [.lit (.int .u8 0), .lit (.int .u8 0)], .agg [.lit (.int .u8 0), .lit (.int .u8 0)], .agg [.lit (.int .u8 0), .lit (.int .u8 0)], .agg [.lit (.int .u8 0), .lit (.int .u8 0)], .agg [.lit (.int .u8 0), .lit (.int .u8 0)], .agg [.lit (.int .u8 0), .lit (.int .u8 0)], .agg [.lit (.int .u8 0), .lit (.int .u8 0)], .agg [.lit (.int .u8 0), .lit (.int .u8 0)]]
def laid_pigeonloft_primary_sumSizes {H : Type} : DataW H := .agg [.lit (.int .i64 0), .lit (.int .i64 2), .lit (.int .i64 4)]
/-- One of Go's own tables, pinned by name: the form's constant. -/
def laid_unicode_utf8_first : DataW Unit := Go.Pinned.utf8First

/-- 'pigeonloftlaw06.PrimarySeals': WHATEVER THE INPUT: true; the input reads as it did. -/
def primarySealsSpec : ChangeSpec := { name := "primarySeals", fn := fun _ => fun
  | [d1, d2] => { results := [.lit (.bool true)], args := [d1, d2] }
  | _ => none }
def primarySealsRow : OpenClaim := { program := "ythknkdphofjmhaadoor", sum := "9ede1e917ea01342f1ec51f3a997bcef9f87a3d851468c2959fd149a3b108a56", func := "pigeonloft/pigeonloftlaw06.PrimarySeals", spec := "primarySeals", inPlace := ["internal/bytealg.IndexByteString", "internal/bytealg.IndexString"], unfollowed := true, recurses := true, named := ["pigeonloft/primary.sumSizes", "unicode/utf8.first", "unicode/utf8.acceptRanges", "internal/bytealg.MaxLen"], loops := true, apart := false, laid := [("unicode/utf8.acceptRanges", laid_unicode_utf8_acceptRanges), ("pigeonloft/primary.sumSizes", laid_pigeonloft_primary_sumSizes), ("unicode/utf8.first", laid_unicode_utf8_first)] }
def PrimarySealsSaid : Prop := primarySealsRow.holds Tryd.pinned (OpenSpec.ofChange primarySealsSpec)

/-- ITS FALSE NEIGHBOUR: 'it returns false'. Refute it at one input. -/
def primarySealsWrong : ChangeSpec := { name := "primarySeals", fn := fun _ => fun
  | [d1, d2] => { results := [.lit (.bool false)], args := [d1, d2] }
  | _ => none }
def PrimarySealsWrongFalsely : Prop := primarySealsRow.holds Tryd.pinned (OpenSpec.ofChange primarySealsWrong)

/-- 'pigeonloftlaw07.CanonBack': WHATEVER THE INPUT: true; the input reads as it did. -/
def canonBackSpec : ChangeSpec := { name := "canonBack", fn := fun _ => fun
  | [d1, d2, d3, d4, d5] => { results := [.lit (.bool true)], args := [d1, d2, d3, d4, d5] }
  | _ => none }
def canonBackRow : OpenClaim := { program := "ythknkdphofjmhaadoor", sum := "9ede1e917ea01342f1ec51f3a997bcef9f87a3d851468c2959fd149a3b108a56", func := "pigeonloft/pigeonloftlaw07.CanonBack", spec := "canonBack", inPlace := ["internal/bytealg.IndexByteString", "internal/bytealg.IndexString"], unfollowed := true, recurses := true, named := ["unicode/utf8.first", "unicode/utf8.acceptRanges", "internal/bytealg.MaxLen", "pigeonloft/primary.sumSizes"], loops := true, apart := false, laid := [("unicode/utf8.acceptRanges", laid_unicode_utf8_acceptRanges), ("pigeonloft/primary.sumSizes", laid_pigeonloft_primary_sumSizes), ("unicode/utf8.first", laid_unicode_utf8_first)] }
def CanonBackSaid : Prop := canonBackRow.holds Tryd.pinned (OpenSpec.ofChange canonBackSpec)

/-- ITS FALSE NEIGHBOUR: 'it returns false'. Refute it at one input. -/
def canonBackWrong : ChangeSpec := { name := "canonBack", fn := fun _ => fun
  | [d1, d2, d3, d4, d5] => { results := [.lit (.bool false)], args := [d1, d2, d3, d4, d5] }
  | _ => none }
def CanonBackWrongFalsely : Prop := canonBackRow.holds Tryd.pinned (OpenSpec.ofChange canonBackWrong)

/-- 'pigeonloftlaw07.CanonMore': WHATEVER THE INPUT: true; the input reads as it did. -/
def canonMoreSpec : ChangeSpec := { name := "canonMore", fn := fun _ => fun
  | [d1, d2, d3] => { results := [.lit (.bool true)], args := [d1, d2, d3] }
  | _ => none }
def canonMoreRow : OpenClaim := { program := "ythknkdphofjmhaadoor", sum := "9ede1e917ea01342f1ec51f3a997bcef9f87a3d851468c2959fd149a3b108a56", func := "pigeonloft/pigeonloftlaw07.CanonMore", spec := "canonMore", inPlace := ["internal/bytealg.IndexByteString", "internal/bytealg.IndexString"], unfollowed := true, recurses := true, named := ["unicode/utf8.first", "unicode/utf8.acceptRanges", "internal/bytealg.MaxLen", "pigeonloft/primary.sumSizes"], apart := false, laid := [("unicode/utf8.acceptRanges", laid_unicode_utf8_acceptRanges), ("pigeonloft/primary.sumSizes", laid_pigeonloft_primary_sumSizes), ("unicode/utf8.first", laid_unicode_utf8_first)] }
def CanonMoreSaid : Prop := canonMoreRow.holds Tryd.pinned (OpenSpec.ofChange canonMoreSpec)

/-- ITS FALSE NEIGHBOUR: 'it returns false'. Refute it at one input. -/
def canonMoreWrong : ChangeSpec := { name := "canonMore", fn := fun _ => fun
  | [d1, d2, d3] => { results := [.lit (.bool false)], args := [d1, d2, d3] }
  | _ => none }
def CanonMoreWrongFalsely : Prop := canonMoreRow.holds Tryd.pinned (OpenSpec.ofChange canonMoreWrong)

/- THE SECOND FORM. 'bulk': how many values and letters a reading holds, each counted each time it is reached (what is shared counts as often as it is met; a slice's spare places count too). A statement '..UptoSaid' is the law's where the arguments, and the package variables that the reading takes, are together of bulk at most 1048576: NARROWER than '..Said'. Prove '..Said' where nothing that the law and all that it calls make is longer than what came in: it says more and counts as full. Else prove '..UptoSaid'. A law counts once. -/
mutual
def uptoBulk {H : Type} : DataW H → Nat
  | .lit (.string bytes) => bytes.length + 1
  | .lit _ => 1
  | .nil => 1
  | .ptr d => uptoBulk d + 1
  | .slice elems spare => uptoBulkAll elems + uptoBulkAll spare + 1
  | .agg parts => uptoBulkAll parts + 1
  | .iface _ d => uptoBulk d + 1
  | .map entries => uptoBulkEntries entries + 1
  | .held _ => 1
def uptoBulkAll {H : Type} : List (DataW H) → Nat
  | [] => 0
  | d :: r => uptoBulk d + uptoBulkAll r
def uptoBulkEntries {H : Type} : List (Lit × DataW H) → Nat
  | [] => 0
  | x :: r => uptoBulkEntry x + uptoBulkEntries r
def uptoBulkEntry {H : Type} : Lit × DataW H → Nat
  | (.string bytes, d) => bytes.length + uptoBulk d + 1
  | (_, d) => uptoBulk d + 1
 end
def uptoSmall : (H : Type) → List (DataW H) → Bool := fun _ ds => decide (uptoBulkAll ds ≤ 1048576)
def OpenSpec.upto (s : _root_.Go.ChangeSpec) : _root_.Go.OpenSpec := { _root_.Go.OpenSpec.ofChange s with cond := some uptoSmall }

/-- 'pigeonloftlaw06.PrimarySeals', WHERE WHAT IT READS IS OF BULK AT MOST 1048576: true; the input reads as it did. -/
def primarySealsUptoRow : OpenClaim := { program := "ythknkdphofjmhaadoor", sum := "9ede1e917ea01342f1ec51f3a997bcef9f87a3d851468c2959fd149a3b108a56", func := "pigeonloft/pigeonloftlaw06.PrimarySeals", spec := "primarySeals", inPlace := ["internal/bytealg.IndexByteString", "internal/bytealg.IndexString"], unfollowed := true, recurses := true, named := ["pigeonloft/primary.sumSizes", "unicode/utf8.first", "unicode/utf8.acceptRanges", "internal/bytealg.MaxLen"], loops := true, apart := false, laid := [("unicode/utf8.acceptRanges", laid_unicode_utf8_acceptRanges), ("pigeonloft/primary.sumSizes", laid_pigeonloft_primary_sumSizes), ("unicode/utf8.first", laid_unicode_utf8_first)], narrowed := true }
def PrimarySealsUptoSaid : Prop := primarySealsUptoRow.holds Tryd.pinned (OpenSpec.upto primarySealsSpec)

/-- 'pigeonloftlaw07.CanonBack', WHERE WHAT IT READS IS OF BULK AT MOST 1048576: true; the input reads as it did. -/
def canonBackUptoRow : OpenClaim := { program := "ythknkdphofjmhaadoor", sum := "9ede1e917ea01342f1ec51f3a997bcef9f87a3d851468c2959fd149a3b108a56", func := "pigeonloft/pigeonloftlaw07.CanonBack", spec := "canonBack", inPlace := ["internal/bytealg.IndexByteString", "internal/bytealg.IndexString"], unfollowed := true, recurses := true, named := ["unicode/utf8.first", "unicode/utf8.acceptRanges", "internal/bytealg.MaxLen", "pigeonloft/primary.sumSizes"], loops := true, apart := false, laid := [("unicode/utf8.acceptRanges", laid_unicode_utf8_acceptRanges), ("pigeonloft/primary.sumSizes", laid_pigeonloft_primary_sumSizes), ("unicode/utf8.first", laid_unicode_utf8_first)], narrowed := true }
def CanonBackUptoSaid : Prop := canonBackUptoRow.holds Tryd.pinned (OpenSpec.upto canonBackSpec)

/-- 'pigeonloftlaw07.CanonMore', WHERE WHAT IT READS IS OF BULK AT MOST 1048576: true; the input reads as it did. -/
def canonMoreUptoRow : OpenClaim := { program := "ythknkdphofjmhaadoor", sum := "9ede1e917ea01342f1ec51f3a997bcef9f87a3d851468c2959fd149a3b108a56", func := "pigeonloft/pigeonloftlaw07.CanonMore", spec := "canonMore", inPlace := ["internal/bytealg.IndexByteString", "internal/bytealg.IndexString"], unfollowed := true, recurses := true, named := ["unicode/utf8.first", "unicode/utf8.acceptRanges", "internal/bytealg.MaxLen", "pigeonloft/primary.sumSizes"], apart := false, laid := [("unicode/utf8.acceptRanges", laid_unicode_utf8_acceptRanges), ("pigeonloft/primary.sumSizes", laid_pigeonloft_primary_sumSizes), ("unicode/utf8.first", laid_unicode_utf8_first)], narrowed := true }
def CanonMoreUptoSaid : Prop := canonMoreUptoRow.holds Tryd.pinned (OpenSpec.upto canonMoreSpec)

end Rows
end Go.Proofs.YthknkdphofjmhaaDoor
