/-
  DERIVED. GIVEN WITH THE SEED: THE CARDS: each row of YtbacoopopokkfaaDoorRows.lean that lists a variable, with what it lists TIED to the program's text (the seventh form; the later family's looks); each row that meets fmt, with fmt's text TOLD by the authors' own Lean function (tested against real Go, not proved from fmt's source: count such statements apart). THE CARD IS WHAT COUNTS. Prove the row's statement (the work); the ties are given (YtbacoopopokkfaaDoorTie.lean); close each card by the builder's one call (the guide's Derived/Test/ToyasCard.lean, 'card_holds'). Laid BY PROGRAM, IN A SANDBOX (cutbox-door.mjs). By AI agents, Wed Nov 11 2026. No macro, syntax, notation, axiom, sorry.
-/
import Derived.Test.YtbacoopopokkfaaDoorRows
import GoSem.ClaimSeven
namespace Go.Proofs.YtbacoopopokkfaaDoor
namespace Rows

/-- THE TIED CARD OF 'harrierlaw1.QuantSetsAreSets'. -/
def quantSetsAreSetsCard : Claim7 := { stood := { row := quantSetsAreSetsRow, standIns := [], harness := (true, "677c016509e466444c7e57ef56fbc0a9f9157a0cb4594d0d2a34e4a0851343b7"), looks := true }, kinds := [], alts := [], laidByText := true, laidKinds := [.data, .data, .data], laidTests := true, laidLooks := .later }
def QuantSetsAreSetsCardSaid : Prop := Claim7.holds Tryd.pinned (.plain (OpenSpec.ofChange quantSetsAreSetsSpec)) quantSetsAreSetsCard

/-- THE TIED CARD OF 'harrierlaw1.QuantReadSpansMatchesSpec'. -/
def quantReadSpansMatchesSpecCard : Claim7 := { stood := { row := quantReadSpansMatchesSpecRow, standIns := [], harness := (true, "677c016509e466444c7e57ef56fbc0a9f9157a0cb4594d0d2a34e4a0851343b7"), looks := true }, kinds := [], alts := [], laidByText := true, laidKinds := [.data, .data, .data, .sentinel, .sentinel], laidTests := true, laidLooks := .later }
def QuantReadSpansMatchesSpecCardSaid : Prop := Claim7.holds Tryd.pinned (.plain (OpenSpec.ofChange quantReadSpansMatchesSpecSpec)) quantReadSpansMatchesSpecCard

/-- THE SECOND FORM's CARD OF 'harrierlaw1.QuantSetsAreSets'. -/
def quantSetsAreSetsUptoCard : Claim7 := { stood := { row := quantSetsAreSetsUptoRow, standIns := [], harness := (true, "677c016509e466444c7e57ef56fbc0a9f9157a0cb4594d0d2a34e4a0851343b7"), looks := true }, kinds := [], alts := [], laidByText := true, laidKinds := [.data, .data, .data], laidTests := true, laidLooks := .later }
def QuantSetsAreSetsUptoCardSaid : Prop := Claim7.holds Tryd.pinned (.plain (OpenSpec.upto quantSetsAreSetsSpec)) quantSetsAreSetsUptoCard

/-- THE SECOND FORM's CARD OF 'harrierlaw1.QuantReadSpansMatchesSpec'. -/
def quantReadSpansMatchesSpecUptoCard : Claim7 := { stood := { row := quantReadSpansMatchesSpecUptoRow, standIns := [], harness := (true, "677c016509e466444c7e57ef56fbc0a9f9157a0cb4594d0d2a34e4a0851343b7"), looks := true }, kinds := [], alts := [], laidByText := true, laidKinds := [.data, .data, .data, .sentinel, .sentinel], laidTests := true, laidLooks := .later }
def QuantReadSpansMatchesSpecUptoCardSaid : Prop := Claim7.holds Tryd.pinned (.plain (OpenSpec.upto quantReadSpansMatchesSpecSpec)) quantReadSpansMatchesSpecUptoCard
end Rows
end Go.Proofs.YtbacoopopokkfaaDoor
