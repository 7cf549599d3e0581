/-
  DERIVED. GIVEN WITH THE SEED: THE CARDS: each row of YtbacoopopokkfaaGreatDoorRows.lean that lists a variable, with what it lists TIED to the program's text (the seventh form; the later family's looks); each row that meets fmt, with fmt's text TOLD by the authors' own Lean function (tested against real Go, not proved from fmt's source: count such statements apart). THE CARD IS WHAT COUNTS. Prove the row's statement (the work); the ties are given (YtbacoopopokkfaaGreatDoorTie.lean); close each card by the builder's one call (the guide's Derived/Test/ToyasCard.lean, 'card_holds'). Laid BY PROGRAM, IN A SANDBOX (cutbox-door.mjs). By AI agents, Wed Nov 11 2026. No macro, syntax, notation, axiom, sorry.
-/
import Derived.Test.YtbacoopopokkfaaGreatDoorRows
import GoSem.ClaimSeven
namespace Go.Proofs.YtbacoopopokkfaaGreatDoor
namespace Rows

/-- THE TIED CARD OF 'harrierlaw1.QuantSetsMatchSpec'. -/
def quantSetsMatchSpecCard : Claim7 := { stood := { row := quantSetsMatchSpecRow, standIns := [], harness := (true, "5af83ecf8ff18797f44b40f7bf669e6913738f033e7f80949949d7c1ee0d2516"), looks := false }, kinds := [], alts := [], laidByText := true, laidKinds := [.data, .data, .data], laidTests := true, laidLooks := .later }
def QuantSetsMatchSpecCardSaid : Prop := Claim7.holds Tryz.pinned (.plain (OpenSpec.ofChange quantSetsMatchSpecSpec)) quantSetsMatchSpecCard

/-- THE SECOND FORM's CARD OF 'harrierlaw1.QuantSetsMatchSpec'. -/
def quantSetsMatchSpecUptoCard : Claim7 := { stood := { row := quantSetsMatchSpecUptoRow, standIns := [], harness := (true, "5af83ecf8ff18797f44b40f7bf669e6913738f033e7f80949949d7c1ee0d2516"), looks := false }, kinds := [], alts := [], laidByText := true, laidKinds := [.data, .data, .data], laidTests := true, laidLooks := .later }
def QuantSetsMatchSpecUptoCardSaid : Prop := Claim7.holds Tryz.pinned (.plain (OpenSpec.upto quantSetsMatchSpecSpec)) quantSetsMatchSpecUptoCard
end Rows
end Go.Proofs.YtbacoopopokkfaaGreatDoor
