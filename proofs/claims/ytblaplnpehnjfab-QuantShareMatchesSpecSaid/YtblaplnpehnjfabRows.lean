/-
  No cell of these rows narrows 'for every input' (looked for: loops, veiled, ifaces, maps, wideKeys, modest, calm, conditions, laid).
  DERIVED. THE GIVEN ROWS OF THIS SEAT. 3 by the template 'for every input the law returns true; each argument reads behind the call as it read before'; 0 by the template 'total and deterministic' (their statements: YtblaplnpehnjfabTotals.lean).
  GIVEN WITH THE SEED: the statements are not yours to turn. If you find one false, say at which input.
  Laid BY PROGRAM, IN A SANDBOX (cutbox-rows.mjs): the forced cells as the released guide's own fill.sh prints them over the translation b9155cd2b53dce79… (all of the seat's roots in one cut). By AI agents, Wed Nov 11 2026. No macro, syntax, notation, axiom, sorry.
-/
import Derived.Test.YtblaplnpehnjfabChecked
import GoSem.Claim
import GoSem.ClaimJoined
import GoSem.ClaimMapViews
import Derived.JoinedTies
import Derived.KernelRfl
namespace Go.Proofs.Ytblaplnpehnjfab
/- THE CELL 'sum', in the pinned program and in every row, IS THE sha256 OF THE DUMP (.gsa) THAT YtblaplnpehnjfabProg.lean LOADS. Nothing in Lean hashes anything: it is a label: what it is worth is what the hold of that sum in a sandbox is worth. -/
noncomputable def Try.pinned : Pinned := { name := "ytblaplnpehnjfab", sum := "b9155cd2b53dce79966dbc20f345b04562e393dc30969f97e41b071ca9597331", checked := Try.checked }
namespace Rows
def none {H : Type} : Left H := { results := [], args := [] }

/-- 'harriertop.TopWearAddsUp': WHATEVER THE INPUT: true; the input reads as it did. -/
def topWearAddsUpSpec : ChangeSpec := { name := "topWearAddsUp", fn := fun _ => fun
  | [d] => { results := [.lit (.bool true)], args := [d] }
  | _ => none }
def topWearAddsUpRow : OpenClaim := { program := "ytblaplnpehnjfab", sum := "b9155cd2b53dce79966dbc20f345b04562e393dc30969f97e41b071ca9597331", func := "harrier/harriertop.TopWearAddsUp", spec := "topWearAddsUp", inPlace := ["internal/bytealg.abigen_runtime_cmpstring"], unfollowed := true, recurses := true, named := ["math/bits.divideError", "math/bits.overflowError"], apart := false }
def TopWearAddsUpSaid : Prop := topWearAddsUpRow.holds Try.pinned (OpenSpec.ofChange topWearAddsUpSpec)

/-- ITS FALSE NEIGHBOUR: 'it returns false'. Refute it at one input. -/
def topWearAddsUpWrong : ChangeSpec := { name := "topWearAddsUp", fn := fun _ => fun
  | [d] => { results := [.lit (.bool false)], args := [d] }
  | _ => none }
def TopWearAddsUpWrongFalsely : Prop := topWearAddsUpRow.holds Try.pinned (OpenSpec.ofChange topWearAddsUpWrong)

/-- 'harrierlaw1.QuantShareMatchesSpec': WHATEVER THE INPUT: true; the input reads as it did. -/
def quantShareMatchesSpecSpec : ChangeSpec := { name := "quantShareMatchesSpec", fn := fun _ => fun
  | [d1, d2] => { results := [.lit (.bool true)], args := [d1, d2] }
  | _ => none }
def quantShareMatchesSpecRow : OpenClaim := { program := "ytblaplnpehnjfab", sum := "b9155cd2b53dce79966dbc20f345b04562e393dc30969f97e41b071ca9597331", func := "harrier/harrierlaw1.QuantShareMatchesSpec", spec := "quantShareMatchesSpec", unfollowed := true, recurses := true, named := ["math/bits.divideError", "math/bits.overflowError"], apart := false }
def QuantShareMatchesSpecSaid : Prop := quantShareMatchesSpecRow.holds Try.pinned (OpenSpec.ofChange quantShareMatchesSpecSpec)

/-- ITS FALSE NEIGHBOUR: 'it returns false'. Refute it at one input. -/
def quantShareMatchesSpecWrong : ChangeSpec := { name := "quantShareMatchesSpec", fn := fun _ => fun
  | [d1, d2] => { results := [.lit (.bool false)], args := [d1, d2] }
  | _ => none }
def QuantShareMatchesSpecWrongFalsely : Prop := quantShareMatchesSpecRow.holds Try.pinned (OpenSpec.ofChange quantShareMatchesSpecWrong)

/-- 'harrierlaw1.QuantSharesAddUp': WHATEVER THE INPUT: true; the input reads as it did. -/
def quantSharesAddUpSpec : ChangeSpec := { name := "quantSharesAddUp", fn := fun _ => fun
  | [d1, d2] => { results := [.lit (.bool true)], args := [d1, d2] }
  | _ => none }
def quantSharesAddUpRow : OpenClaim := { program := "ytblaplnpehnjfab", sum := "b9155cd2b53dce79966dbc20f345b04562e393dc30969f97e41b071ca9597331", func := "harrier/harrierlaw1.QuantSharesAddUp", spec := "quantSharesAddUp", unfollowed := true, recurses := true, named := ["math/bits.divideError", "math/bits.overflowError"], apart := false }
def QuantSharesAddUpSaid : Prop := quantSharesAddUpRow.holds Try.pinned (OpenSpec.ofChange quantSharesAddUpSpec)

/-- ITS FALSE NEIGHBOUR: 'it returns false'. Refute it at one input. -/
def quantSharesAddUpWrong : ChangeSpec := { name := "quantSharesAddUp", fn := fun _ => fun
  | [d1, d2] => { results := [.lit (.bool false)], args := [d1, d2] }
  | _ => none }
def QuantSharesAddUpWrongFalsely : Prop := quantSharesAddUpRow.holds Try.pinned (OpenSpec.ofChange quantSharesAddUpWrong)

/- THE SECOND FORM. 'bulk': how many values and letters a reading holds, each counted each time it is reached (what is shared counts as often as it is met; a slice's spare places count too). A statement '..UptoSaid' is the law's where the arguments, and the package variables that the reading takes, are together of bulk at most 1048576: NARROWER than '..Said'. Prove '..Said' where nothing that the law and all that it calls make is longer than what came in: it says more and counts as full. Else prove '..UptoSaid'. A law counts once. -/
mutual
def uptoBulk {H : Type} : DataW H → Nat
  | .lit (.string bytes) => bytes.length + 1
  | .lit _ => 1
  | .nil => 1
  | .ptr d => uptoBulk d + 1
  | .slice elems spare => uptoBulkAll elems + uptoBulkAll spare + 1
  | .agg parts => uptoBulkAll parts + 1
  | .iface _ d => uptoBulk d + 1
  | .map entries => uptoBulkEntries entries + 1
  | .held _ => 1
def uptoBulkAll {H : Type} : List (DataW H) → Nat
  | [] => 0
  | d :: r => uptoBulk d + uptoBulkAll r
def uptoBulkEntries {H : Type} : List (Lit × DataW H) → Nat
  | [] => 0
  | x :: r => uptoBulkEntry x + uptoBulkEntries r
def uptoBulkEntry {H : Type} : Lit × DataW H → Nat
  | (.string bytes, d) => bytes.length + uptoBulk d + 1
  | (_, d) => uptoBulk d + 1
 end
def uptoSmall : (H : Type) → List (DataW H) → Bool := fun _ ds => decide (uptoBulkAll ds ≤ 1048576)
def OpenSpec.upto (s : _root_.Go.ChangeSpec) : _root_.Go.OpenSpec := { _root_.Go.OpenSpec.ofChange s with cond := some uptoSmall }

/-- 'harriertop.TopWearAddsUp', WHERE WHAT IT READS IS OF BULK AT MOST 1048576: true; the input reads as it did. -/
def topWearAddsUpUptoRow : OpenClaim := { program := "ytblaplnpehnjfab", sum := "b9155cd2b53dce79966dbc20f345b04562e393dc30969f97e41b071ca9597331", func := "harrier/harriertop.TopWearAddsUp", spec := "topWearAddsUp", inPlace := ["internal/bytealg.abigen_runtime_cmpstring"], unfollowed := true, recurses := true, named := ["math/bits.divideError", "math/bits.overflowError"], apart := false, narrowed := true }
def TopWearAddsUpUptoSaid : Prop := topWearAddsUpUptoRow.holds Try.pinned (OpenSpec.upto topWearAddsUpSpec)

/-- 'harrierlaw1.QuantShareMatchesSpec', WHERE WHAT IT READS IS OF BULK AT MOST 1048576: true; the input reads as it did. -/
def quantShareMatchesSpecUptoRow : OpenClaim := { program := "ytblaplnpehnjfab", sum := "b9155cd2b53dce79966dbc20f345b04562e393dc30969f97e41b071ca9597331", func := "harrier/harrierlaw1.QuantShareMatchesSpec", spec := "quantShareMatchesSpec", unfollowed := true, recurses := true, named := ["math/bits.divideError", "math/bits.overflowError"], apart := false, narrowed := true }
def QuantShareMatchesSpecUptoSaid : Prop := quantShareMatchesSpecUptoRow.holds Try.pinned (OpenSpec.upto quantShareMatchesSpecSpec)

/-- 'harrierlaw1.QuantSharesAddUp', WHERE WHAT IT READS IS OF BULK AT MOST 1048576: true; the input reads as it did. -/
def quantSharesAddUpUptoRow : OpenClaim := { program := "ytblaplnpehnjfab", sum := "b9155cd2b53dce79966dbc20f345b04562e393dc30969f97e41b071ca9597331", func := "harrier/harrierlaw1.QuantSharesAddUp", spec := "quantSharesAddUp", unfollowed := true, recurses := true, named := ["math/bits.divideError", "math/bits.overflowError"], apart := false, narrowed := true }
def QuantSharesAddUpUptoSaid : Prop := quantSharesAddUpUptoRow.holds Try.pinned (OpenSpec.upto quantSharesAddUpSpec)

end Rows
end Go.Proofs.Ytblaplnpehnjfab
