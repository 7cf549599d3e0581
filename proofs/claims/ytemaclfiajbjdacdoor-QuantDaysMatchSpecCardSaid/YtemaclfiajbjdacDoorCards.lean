/-
  DERIVED. GIVEN WITH THE SEED: THE CARDS: each row of YtemaclfiajbjdacDoorRows.lean that lists a variable, with what it lists TIED to the program's text (the seventh form; the later family's looks); each row that meets fmt, with fmt's text TOLD by the authors' own Lean function (tested against real Go, not proved from fmt's source: count such statements apart). THE CARD IS WHAT COUNTS. Prove the row's statement (the work); the ties are given (YtemaclfiajbjdacDoorTie.lean); close each card by the builder's one call (the guide's Derived/Test/ToyasCard.lean, 'card_holds'). Laid BY PROGRAM, IN A SANDBOX (cutbox-door.mjs). By AI agents, Wed Nov 11 2026. No macro, syntax, notation, axiom, sorry.
-/
import Derived.Test.YtemaclfiajbjdacDoorRows
import GoSem.ClaimSeven
namespace Go.Proofs.YtemaclfiajbjdacDoor
namespace Rows

/-- THE TIED CARD OF 'harrierlaw1.QuantDaysMatchSpec'. -/
def quantDaysMatchSpecCard : Claim7 := { stood := { row := quantDaysMatchSpecRow, standIns := [], harness := (true, "7e5acfcf79bdf25be1f3be4bb07c6ee3381d36e7d0c8335ffb2e29058b7ee7bd"), looks := true }, kinds := [], alts := [], laidByText := true, laidKinds := [.data, .data, .data, .sentinel, .sentinel, .data], laidTests := true, laidLooks := .later }
def QuantDaysMatchSpecCardSaid : Prop := Claim7.holds Tryd.pinned (.plain (OpenSpec.ofChange quantDaysMatchSpecSpec)) quantDaysMatchSpecCard

/-- THE TIED CARD OF 'harrierlaw1.QuantDurationsMatchSpec'. -/
def quantDurationsMatchSpecCard : Claim7 := { stood := { row := quantDurationsMatchSpecRow, standIns := [], harness := (true, "7e5acfcf79bdf25be1f3be4bb07c6ee3381d36e7d0c8335ffb2e29058b7ee7bd"), looks := true }, kinds := [], alts := [], laidByText := true, laidKinds := [.data, .data, .data, .sentinel, .sentinel], laidTests := true, laidLooks := .later }
def QuantDurationsMatchSpecCardSaid : Prop := Claim7.holds Tryd.pinned (.plain (OpenSpec.ofChange quantDurationsMatchSpecSpec)) quantDurationsMatchSpecCard

/-- THE TIED CARD OF 'harrierlaw1.QuantPacesMatchSpec'. -/
def quantPacesMatchSpecCard : Claim7 := { stood := { row := quantPacesMatchSpecRow, standIns := [], harness := (true, "7e5acfcf79bdf25be1f3be4bb07c6ee3381d36e7d0c8335ffb2e29058b7ee7bd"), looks := true }, kinds := [], alts := [], laidByText := true, laidKinds := [.data, .data, .data, .sentinel, .sentinel, .data], laidTests := true, laidLooks := .later }
def QuantPacesMatchSpecCardSaid : Prop := Claim7.holds Tryd.pinned (.plain (OpenSpec.ofChange quantPacesMatchSpecSpec)) quantPacesMatchSpecCard

/-- THE SECOND FORM's CARD OF 'harrierlaw1.QuantDaysMatchSpec'. -/
def quantDaysMatchSpecUptoCard : Claim7 := { stood := { row := quantDaysMatchSpecUptoRow, standIns := [], harness := (true, "7e5acfcf79bdf25be1f3be4bb07c6ee3381d36e7d0c8335ffb2e29058b7ee7bd"), looks := true }, kinds := [], alts := [], laidByText := true, laidKinds := [.data, .data, .data, .sentinel, .sentinel, .data], laidTests := true, laidLooks := .later }
def QuantDaysMatchSpecUptoCardSaid : Prop := Claim7.holds Tryd.pinned (.plain (OpenSpec.upto quantDaysMatchSpecSpec)) quantDaysMatchSpecUptoCard

/-- THE SECOND FORM's CARD OF 'harrierlaw1.QuantDurationsMatchSpec'. -/
def quantDurationsMatchSpecUptoCard : Claim7 := { stood := { row := quantDurationsMatchSpecUptoRow, standIns := [], harness := (true, "7e5acfcf79bdf25be1f3be4bb07c6ee3381d36e7d0c8335ffb2e29058b7ee7bd"), looks := true }, kinds := [], alts := [], laidByText := true, laidKinds := [.data, .data, .data, .sentinel, .sentinel], laidTests := true, laidLooks := .later }
def QuantDurationsMatchSpecUptoCardSaid : Prop := Claim7.holds Tryd.pinned (.plain (OpenSpec.upto quantDurationsMatchSpecSpec)) quantDurationsMatchSpecUptoCard

/-- THE SECOND FORM's CARD OF 'harrierlaw1.QuantPacesMatchSpec'. -/
def quantPacesMatchSpecUptoCard : Claim7 := { stood := { row := quantPacesMatchSpecUptoRow, standIns := [], harness := (true, "7e5acfcf79bdf25be1f3be4bb07c6ee3381d36e7d0c8335ffb2e29058b7ee7bd"), looks := true }, kinds := [], alts := [], laidByText := true, laidKinds := [.data, .data, .data, .sentinel, .sentinel, .data], laidTests := true, laidLooks := .later }
def QuantPacesMatchSpecUptoCardSaid : Prop := Claim7.holds Tryd.pinned (.plain (OpenSpec.upto quantPacesMatchSpecSpec)) quantPacesMatchSpecUptoCard
end Rows
end Go.Proofs.YtemaclfiajbjdacDoor
