/-
  No cell of these rows narrows 'for every input' (looked for: loops, veiled, ifaces, maps, wideKeys, modest, calm, conditions, laid).
  DERIVED. THE GIVEN ROWS OF THIS SEAT. 12 by the template 'for every input the law returns true; each argument reads behind the call as it read before'; 0 by the template 'total and deterministic' (their statements: YtimfgplihppeeaaTotals.lean).
  GIVEN WITH THE SEED: the statements are not yours to turn. If you find one false, say at which input.
  Laid BY PROGRAM, IN A SANDBOX (cutbox-rows.mjs): the forced cells as the released guide's own fill.sh prints them over the translation dc558f25e06a3324… (all of the seat's roots in one cut). By AI agents, Wed Nov 11 2026. No macro, syntax, notation, axiom, sorry.
-/
import Derived.Test.YtimfgplihppeeaaChecked
import GoSem.Claim
import GoSem.ClaimJoined
import GoSem.ClaimMapViews
import Derived.JoinedTies
import Derived.KernelRfl
namespace Go.Proofs.Ytimfgplihppeeaa
/- THE CELL 'sum', in the pinned program and in every row, IS THE sha256 OF THE DUMP (.gsa) THAT YtimfgplihppeeaaProg.lean LOADS. Nothing in Lean hashes anything: it is a label: what it is worth is what the hold of that sum in a sandbox is worth. -/
noncomputable def Try.pinned : Pinned := { name := "ytimfgplihppeeaa", sum := "dc558f25e06a3324b2cb7c3f8d1669a88faf69b42f7589888d2c706a4e9390d2", checked := Try.checked }
namespace Rows
def none {H : Type} : Left H := { results := [], args := [] }

/-- 'harrierlaw3.TrackHillsMatchSpec': WHATEVER THE INPUT: true; the input reads as it did. -/
def trackHillsMatchSpecSpec : ChangeSpec := { name := "trackHillsMatchSpec", fn := fun _ => fun
  | [d1, d2, d3] => { results := [.lit (.bool true)], args := [d1, d2, d3] }
  | _ => none }
def trackHillsMatchSpecRow : OpenClaim := { program := "ytimfgplihppeeaa", sum := "dc558f25e06a3324b2cb7c3f8d1669a88faf69b42f7589888d2c706a4e9390d2", func := "harrier/harrierlaw3.TrackHillsMatchSpec", spec := "trackHillsMatchSpec", unfollowed := true, recurses := true, apart := false }
def TrackHillsMatchSpecSaid : Prop := trackHillsMatchSpecRow.holds Try.pinned (OpenSpec.ofChange trackHillsMatchSpecSpec)

/-- ITS FALSE NEIGHBOUR: 'it returns false'. Refute it at one input. -/
def trackHillsMatchSpecWrong : ChangeSpec := { name := "trackHillsMatchSpec", fn := fun _ => fun
  | [d1, d2, d3] => { results := [.lit (.bool false)], args := [d1, d2, d3] }
  | _ => none }
def TrackHillsMatchSpecWrongFalsely : Prop := trackHillsMatchSpecRow.holds Try.pinned (OpenSpec.ofChange trackHillsMatchSpecWrong)

/-- 'harrierlaw3.TrackHillsAreHills': WHATEVER THE INPUT: true; the input reads as it did. -/
def trackHillsAreHillsSpec : ChangeSpec := { name := "trackHillsAreHills", fn := fun _ => fun
  | [d1, d2, d3, d4, d5] => { results := [.lit (.bool true)], args := [d1, d2, d3, d4, d5] }
  | _ => none }
def trackHillsAreHillsRow : OpenClaim := { program := "ytimfgplihppeeaa", sum := "dc558f25e06a3324b2cb7c3f8d1669a88faf69b42f7589888d2c706a4e9390d2", func := "harrier/harrierlaw3.TrackHillsAreHills", spec := "trackHillsAreHills", unfollowed := true, recurses := true, apart := false }
def TrackHillsAreHillsSaid : Prop := trackHillsAreHillsRow.holds Try.pinned (OpenSpec.ofChange trackHillsAreHillsSpec)

/-- ITS FALSE NEIGHBOUR: 'it returns false'. Refute it at one input. -/
def trackHillsAreHillsWrong : ChangeSpec := { name := "trackHillsAreHills", fn := fun _ => fun
  | [d1, d2, d3, d4, d5] => { results := [.lit (.bool false)], args := [d1, d2, d3, d4, d5] }
  | _ => none }
def TrackHillsAreHillsWrongFalsely : Prop := trackHillsAreHillsRow.holds Try.pinned (OpenSpec.ofChange trackHillsAreHillsWrong)

/-- 'harrierlaw3.TrackSplitsMatchSpec': WHATEVER THE INPUT: true; the input reads as it did. -/
def trackSplitsMatchSpecSpec : ChangeSpec := { name := "trackSplitsMatchSpec", fn := fun _ => fun
  | [d1, d2] => { results := [.lit (.bool true)], args := [d1, d2] }
  | _ => none }
def trackSplitsMatchSpecRow : OpenClaim := { program := "ytimfgplihppeeaa", sum := "dc558f25e06a3324b2cb7c3f8d1669a88faf69b42f7589888d2c706a4e9390d2", func := "harrier/harrierlaw3.TrackSplitsMatchSpec", spec := "trackSplitsMatchSpec", unfollowed := true, recurses := true, named := ["math/bits.divideError", "math/bits.overflowError"], apart := false }
def TrackSplitsMatchSpecSaid : Prop := trackSplitsMatchSpecRow.holds Try.pinned (OpenSpec.ofChange trackSplitsMatchSpecSpec)

/-- ITS FALSE NEIGHBOUR: 'it returns false'. Refute it at one input. -/
def trackSplitsMatchSpecWrong : ChangeSpec := { name := "trackSplitsMatchSpec", fn := fun _ => fun
  | [d1, d2] => { results := [.lit (.bool false)], args := [d1, d2] }
  | _ => none }
def TrackSplitsMatchSpecWrongFalsely : Prop := trackSplitsMatchSpecRow.holds Try.pinned (OpenSpec.ofChange trackSplitsMatchSpecWrong)

/-- 'harrierlaw3.TrackSplitsRise': WHATEVER THE INPUT: true; the input reads as it did. -/
def trackSplitsRiseSpec : ChangeSpec := { name := "trackSplitsRise", fn := fun _ => fun
  | [d1, d2] => { results := [.lit (.bool true)], args := [d1, d2] }
  | _ => none }
def trackSplitsRiseRow : OpenClaim := { program := "ytimfgplihppeeaa", sum := "dc558f25e06a3324b2cb7c3f8d1669a88faf69b42f7589888d2c706a4e9390d2", func := "harrier/harrierlaw3.TrackSplitsRise", spec := "trackSplitsRise", unfollowed := true, recurses := true, named := ["math/bits.divideError", "math/bits.overflowError"], apart := false }
def TrackSplitsRiseSaid : Prop := trackSplitsRiseRow.holds Try.pinned (OpenSpec.ofChange trackSplitsRiseSpec)

/-- ITS FALSE NEIGHBOUR: 'it returns false'. Refute it at one input. -/
def trackSplitsRiseWrong : ChangeSpec := { name := "trackSplitsRise", fn := fun _ => fun
  | [d1, d2] => { results := [.lit (.bool false)], args := [d1, d2] }
  | _ => none }
def TrackSplitsRiseWrongFalsely : Prop := trackSplitsRiseRow.holds Try.pinned (OpenSpec.ofChange trackSplitsRiseWrong)

/-- 'harrierlaw3.TrackAtMatchesSpec': WHATEVER THE INPUT: true; the input reads as it did. -/
def trackAtMatchesSpecSpec : ChangeSpec := { name := "trackAtMatchesSpec", fn := fun _ => fun
  | [d1, d2, d3] => { results := [.lit (.bool true)], args := [d1, d2, d3] }
  | _ => none }
def trackAtMatchesSpecRow : OpenClaim := { program := "ytimfgplihppeeaa", sum := "dc558f25e06a3324b2cb7c3f8d1669a88faf69b42f7589888d2c706a4e9390d2", func := "harrier/harrierlaw3.TrackAtMatchesSpec", spec := "trackAtMatchesSpec", unfollowed := true, recurses := true, named := ["math/bits.divideError", "math/bits.overflowError"], apart := false }
def TrackAtMatchesSpecSaid : Prop := trackAtMatchesSpecRow.holds Try.pinned (OpenSpec.ofChange trackAtMatchesSpecSpec)

/-- ITS FALSE NEIGHBOUR: 'it returns false'. Refute it at one input. -/
def trackAtMatchesSpecWrong : ChangeSpec := { name := "trackAtMatchesSpec", fn := fun _ => fun
  | [d1, d2, d3] => { results := [.lit (.bool false)], args := [d1, d2, d3] }
  | _ => none }
def TrackAtMatchesSpecWrongFalsely : Prop := trackAtMatchesSpecRow.holds Try.pinned (OpenSpec.ofChange trackAtMatchesSpecWrong)

/-- 'harrierlaw3.TrackKeepMatchesSpec': WHATEVER THE INPUT: true; the input reads as it did. -/
def trackKeepMatchesSpecSpec : ChangeSpec := { name := "trackKeepMatchesSpec", fn := fun _ => fun
  | [d1, d2] => { results := [.lit (.bool true)], args := [d1, d2] }
  | _ => none }
def trackKeepMatchesSpecRow : OpenClaim := { program := "ytimfgplihppeeaa", sum := "dc558f25e06a3324b2cb7c3f8d1669a88faf69b42f7589888d2c706a4e9390d2", func := "harrier/harrierlaw3.TrackKeepMatchesSpec", spec := "trackKeepMatchesSpec", unfollowed := true, recurses := true, apart := false }
def TrackKeepMatchesSpecSaid : Prop := trackKeepMatchesSpecRow.holds Try.pinned (OpenSpec.ofChange trackKeepMatchesSpecSpec)

/-- ITS FALSE NEIGHBOUR: 'it returns false'. Refute it at one input. -/
def trackKeepMatchesSpecWrong : ChangeSpec := { name := "trackKeepMatchesSpec", fn := fun _ => fun
  | [d1, d2] => { results := [.lit (.bool false)], args := [d1, d2] }
  | _ => none }
def TrackKeepMatchesSpecWrongFalsely : Prop := trackKeepMatchesSpecRow.holds Try.pinned (OpenSpec.ofChange trackKeepMatchesSpecWrong)

/-- 'harrierlaw4.EffortStreamsMatchSpec': WHATEVER THE INPUT: true; the input reads as it did. -/
def effortStreamsMatchSpecSpec : ChangeSpec := { name := "effortStreamsMatchSpec", fn := fun _ => fun
  | [d1, d2] => { results := [.lit (.bool true)], args := [d1, d2] }
  | _ => none }
def effortStreamsMatchSpecRow : OpenClaim := { program := "ytimfgplihppeeaa", sum := "dc558f25e06a3324b2cb7c3f8d1669a88faf69b42f7589888d2c706a4e9390d2", func := "harrier/harrierlaw4.EffortStreamsMatchSpec", spec := "effortStreamsMatchSpec", unfollowed := true, recurses := true, apart := false }
def EffortStreamsMatchSpecSaid : Prop := effortStreamsMatchSpecRow.holds Try.pinned (OpenSpec.ofChange effortStreamsMatchSpecSpec)

/-- ITS FALSE NEIGHBOUR: 'it returns false'. Refute it at one input. -/
def effortStreamsMatchSpecWrong : ChangeSpec := { name := "effortStreamsMatchSpec", fn := fun _ => fun
  | [d1, d2] => { results := [.lit (.bool false)], args := [d1, d2] }
  | _ => none }
def EffortStreamsMatchSpecWrongFalsely : Prop := effortStreamsMatchSpecRow.holds Try.pinned (OpenSpec.ofChange effortStreamsMatchSpecWrong)

/-- 'harrierlaw4.EffortLapsMatchSpec': WHATEVER THE INPUT: true; the input reads as it did. -/
def effortLapsMatchSpecSpec : ChangeSpec := { name := "effortLapsMatchSpec", fn := fun _ => fun
  | [d1, d2, d3] => { results := [.lit (.bool true)], args := [d1, d2, d3] }
  | _ => none }
def effortLapsMatchSpecRow : OpenClaim := { program := "ytimfgplihppeeaa", sum := "dc558f25e06a3324b2cb7c3f8d1669a88faf69b42f7589888d2c706a4e9390d2", func := "harrier/harrierlaw4.EffortLapsMatchSpec", spec := "effortLapsMatchSpec", unfollowed := true, recurses := true, apart := false }
def EffortLapsMatchSpecSaid : Prop := effortLapsMatchSpecRow.holds Try.pinned (OpenSpec.ofChange effortLapsMatchSpecSpec)

/-- ITS FALSE NEIGHBOUR: 'it returns false'. Refute it at one input. -/
def effortLapsMatchSpecWrong : ChangeSpec := { name := "effortLapsMatchSpec", fn := fun _ => fun
  | [d1, d2, d3] => { results := [.lit (.bool false)], args := [d1, d2, d3] }
  | _ => none }
def EffortLapsMatchSpecWrongFalsely : Prop := effortLapsMatchSpecRow.holds Try.pinned (OpenSpec.ofChange effortLapsMatchSpecWrong)

/-- 'harrierlaw4.EffortPartsMatchSpec': WHATEVER THE INPUT: true; the input reads as it did. -/
def effortPartsMatchSpecSpec : ChangeSpec := { name := "effortPartsMatchSpec", fn := fun _ => fun
  | [d1, d2, d3] => { results := [.lit (.bool true)], args := [d1, d2, d3] }
  | _ => none }
def effortPartsMatchSpecRow : OpenClaim := { program := "ytimfgplihppeeaa", sum := "dc558f25e06a3324b2cb7c3f8d1669a88faf69b42f7589888d2c706a4e9390d2", func := "harrier/harrierlaw4.EffortPartsMatchSpec", spec := "effortPartsMatchSpec", unfollowed := true, recurses := true, apart := false }
def EffortPartsMatchSpecSaid : Prop := effortPartsMatchSpecRow.holds Try.pinned (OpenSpec.ofChange effortPartsMatchSpecSpec)

/-- ITS FALSE NEIGHBOUR: 'it returns false'. Refute it at one input. -/
def effortPartsMatchSpecWrong : ChangeSpec := { name := "effortPartsMatchSpec", fn := fun _ => fun
  | [d1, d2, d3] => { results := [.lit (.bool false)], args := [d1, d2, d3] }
  | _ => none }
def EffortPartsMatchSpecWrongFalsely : Prop := effortPartsMatchSpecRow.holds Try.pinned (OpenSpec.ofChange effortPartsMatchSpecWrong)

/-- 'harrierlaw4.EffortPartsAddUp': WHATEVER THE INPUT: true; the input reads as it did. -/
def effortPartsAddUpSpec : ChangeSpec := { name := "effortPartsAddUp", fn := fun _ => fun
  | [d1, d2, d3, d4] => { results := [.lit (.bool true)], args := [d1, d2, d3, d4] }
  | _ => none }
def effortPartsAddUpRow : OpenClaim := { program := "ytimfgplihppeeaa", sum := "dc558f25e06a3324b2cb7c3f8d1669a88faf69b42f7589888d2c706a4e9390d2", func := "harrier/harrierlaw4.EffortPartsAddUp", spec := "effortPartsAddUp", unfollowed := true, recurses := true, apart := false }
def EffortPartsAddUpSaid : Prop := effortPartsAddUpRow.holds Try.pinned (OpenSpec.ofChange effortPartsAddUpSpec)

/-- ITS FALSE NEIGHBOUR: 'it returns false'. Refute it at one input. -/
def effortPartsAddUpWrong : ChangeSpec := { name := "effortPartsAddUp", fn := fun _ => fun
  | [d1, d2, d3, d4] => { results := [.lit (.bool false)], args := [d1, d2, d3, d4] }
  | _ => none }
def EffortPartsAddUpWrongFalsely : Prop := effortPartsAddUpRow.holds Try.pinned (OpenSpec.ofChange effortPartsAddUpWrong)

/-- 'harrierlaw4.EffortBestMatchesSpec': WHATEVER THE INPUT: true; the input reads as it did. -/
def effortBestMatchesSpecSpec : ChangeSpec := { name := "effortBestMatchesSpec", fn := fun _ => fun
  | [d1, d2, d3] => { results := [.lit (.bool true)], args := [d1, d2, d3] }
  | _ => none }
def effortBestMatchesSpecRow : OpenClaim := { program := "ytimfgplihppeeaa", sum := "dc558f25e06a3324b2cb7c3f8d1669a88faf69b42f7589888d2c706a4e9390d2", func := "harrier/harrierlaw4.EffortBestMatchesSpec", spec := "effortBestMatchesSpec", unfollowed := true, recurses := true, apart := false }
def EffortBestMatchesSpecSaid : Prop := effortBestMatchesSpecRow.holds Try.pinned (OpenSpec.ofChange effortBestMatchesSpecSpec)

/-- ITS FALSE NEIGHBOUR: 'it returns false'. Refute it at one input. -/
def effortBestMatchesSpecWrong : ChangeSpec := { name := "effortBestMatchesSpec", fn := fun _ => fun
  | [d1, d2, d3] => { results := [.lit (.bool false)], args := [d1, d2, d3] }
  | _ => none }
def EffortBestMatchesSpecWrongFalsely : Prop := effortBestMatchesSpecRow.holds Try.pinned (OpenSpec.ofChange effortBestMatchesSpecWrong)

/-- 'harrierlaw3.TrackRestsMatchSpec': WHATEVER THE INPUT: true; the input reads as it did. -/
def trackRestsMatchSpecSpec : ChangeSpec := { name := "trackRestsMatchSpec", fn := fun _ => fun
  | [d1, d2, d3, d4] => { results := [.lit (.bool true)], args := [d1, d2, d3, d4] }
  | _ => none }
def trackRestsMatchSpecRow : OpenClaim := { program := "ytimfgplihppeeaa", sum := "dc558f25e06a3324b2cb7c3f8d1669a88faf69b42f7589888d2c706a4e9390d2", func := "harrier/harrierlaw3.TrackRestsMatchSpec", spec := "trackRestsMatchSpec", unfollowed := true, recurses := true, apart := false }
def TrackRestsMatchSpecSaid : Prop := trackRestsMatchSpecRow.holds Try.pinned (OpenSpec.ofChange trackRestsMatchSpecSpec)

/-- ITS FALSE NEIGHBOUR: 'it returns false'. Refute it at one input. -/
def trackRestsMatchSpecWrong : ChangeSpec := { name := "trackRestsMatchSpec", fn := fun _ => fun
  | [d1, d2, d3, d4] => { results := [.lit (.bool false)], args := [d1, d2, d3, d4] }
  | _ => none }
def TrackRestsMatchSpecWrongFalsely : Prop := trackRestsMatchSpecRow.holds Try.pinned (OpenSpec.ofChange trackRestsMatchSpecWrong)

/- THE SECOND FORM. 'bulk': how many values and letters a reading holds, each counted each time it is reached (what is shared counts as often as it is met; a slice's spare places count too). A statement '..UptoSaid' is the law's where the arguments, and the package variables that the reading takes, are together of bulk at most 1048576: NARROWER than '..Said'. Prove '..Said' where nothing that the law and all that it calls make is longer than what came in: it says more and counts as full. Else prove '..UptoSaid'. A law counts once. -/
mutual
def uptoBulk {H : Type} : DataW H → Nat
  | .lit (.string bytes) => bytes.length + 1
  | .lit _ => 1
  | .nil => 1
  | .ptr d => uptoBulk d + 1
  | .slice elems spare => uptoBulkAll elems + uptoBulkAll spare + 1
  | .agg parts => uptoBulkAll parts + 1
  | .iface _ d => uptoBulk d + 1
  | .map entries => uptoBulkEntries entries + 1
  | .held _ => 1
def uptoBulkAll {H : Type} : List (DataW H) → Nat
  | [] => 0
  | d :: r => uptoBulk d + uptoBulkAll r
def uptoBulkEntries {H : Type} : List (Lit × DataW H) → Nat
  | [] => 0
  | x :: r => uptoBulkEntry x + uptoBulkEntries r
def uptoBulkEntry {H : Type} : Lit × DataW H → Nat
  | (.string bytes, d) => bytes.length + uptoBulk d + 1
  | (_, d) => uptoBulk d + 1
 end
def uptoSmall : (H : Type) → List (DataW H) → Bool := fun _ ds => decide (uptoBulkAll ds ≤ 1048576)
def OpenSpec.upto (s : _root_.Go.ChangeSpec) : _root_.Go.OpenSpec := { _root_.Go.OpenSpec.ofChange s with cond := some uptoSmall }

/-- 'harrierlaw3.TrackHillsMatchSpec', WHERE WHAT IT READS IS OF BULK AT MOST 1048576: true; the input reads as it did. -/
def trackHillsMatchSpecUptoRow : OpenClaim := { program := "ytimfgplihppeeaa", sum := "dc558f25e06a3324b2cb7c3f8d1669a88faf69b42f7589888d2c706a4e9390d2", func := "harrier/harrierlaw3.TrackHillsMatchSpec", spec := "trackHillsMatchSpec", unfollowed := true, recurses := true, apart := false, narrowed := true }
def TrackHillsMatchSpecUptoSaid : Prop := trackHillsMatchSpecUptoRow.holds Try.pinned (OpenSpec.upto trackHillsMatchSpecSpec)

/-- 'harrierlaw3.TrackHillsAreHills', WHERE WHAT IT READS IS OF BULK AT MOST 1048576: true; the input reads as it did. -/
def trackHillsAreHillsUptoRow : OpenClaim := { program := "ytimfgplihppeeaa", sum := "dc558f25e06a3324b2cb7c3f8d1669a88faf69b42f7589888d2c706a4e9390d2", func := "harrier/harrierlaw3.TrackHillsAreHills", spec := "trackHillsAreHills", unfollowed := true, recurses := true, apart := false, narrowed := true }
def TrackHillsAreHillsUptoSaid : Prop := trackHillsAreHillsUptoRow.holds Try.pinned (OpenSpec.upto trackHillsAreHillsSpec)

/-- 'harrierlaw3.TrackSplitsMatchSpec', WHERE WHAT IT READS IS OF BULK AT MOST 1048576: true; the input reads as it did. -/
def trackSplitsMatchSpecUptoRow : OpenClaim := { program := "ytimfgplihppeeaa", sum := "dc558f25e06a3324b2cb7c3f8d1669a88faf69b42f7589888d2c706a4e9390d2", func := "harrier/harrierlaw3.TrackSplitsMatchSpec", spec := "trackSplitsMatchSpec", unfollowed := true, recurses := true, named := ["math/bits.divideError", "math/bits.overflowError"], apart := false, narrowed := true }
def TrackSplitsMatchSpecUptoSaid : Prop := trackSplitsMatchSpecUptoRow.holds Try.pinned (OpenSpec.upto trackSplitsMatchSpecSpec)

/-- 'harrierlaw3.TrackSplitsRise', WHERE WHAT IT READS IS OF BULK AT MOST 1048576: true; the input reads as it did. -/
def trackSplitsRiseUptoRow : OpenClaim := { program := "ytimfgplihppeeaa", sum := "dc558f25e06a3324b2cb7c3f8d1669a88faf69b42f7589888d2c706a4e9390d2", func := "harrier/harrierlaw3.TrackSplitsRise", spec := "trackSplitsRise", unfollowed := true, recurses := true, named := ["math/bits.divideError", "math/bits.overflowError"], apart := false, narrowed := true }
def TrackSplitsRiseUptoSaid : Prop := trackSplitsRiseUptoRow.holds Try.pinned (OpenSpec.upto trackSplitsRiseSpec)

/-- 'harrierlaw3.TrackAtMatchesSpec', WHERE WHAT IT READS IS OF BULK AT MOST 1048576: true; the input reads as it did. -/
def trackAtMatchesSpecUptoRow : OpenClaim := { program := "ytimfgplihppeeaa", sum := "dc558f25e06a3324b2cb7c3f8d1669a88faf69b42f7589888d2c706a4e9390d2", func := "harrier/harrierlaw3.TrackAtMatchesSpec", spec := "trackAtMatchesSpec", unfollowed := true, recurses := true, named := ["math/bits.divideError", "math/bits.overflowError"], apart := false, narrowed := true }
def TrackAtMatchesSpecUptoSaid : Prop := trackAtMatchesSpecUptoRow.holds Try.pinned (OpenSpec.upto trackAtMatchesSpecSpec)

/-- 'harrierlaw3.TrackKeepMatchesSpec', WHERE WHAT IT READS IS OF BULK AT MOST 1048576: true; the input reads as it did. -/
def trackKeepMatchesSpecUptoRow : OpenClaim := { program := "ytimfgplihppeeaa", sum := "dc558f25e06a3324b2cb7c3f8d1669a88faf69b42f7589888d2c706a4e9390d2", func := "harrier/harrierlaw3.TrackKeepMatchesSpec", spec := "trackKeepMatchesSpec", unfollowed := true, recurses := true, apart := false, narrowed := true }
def TrackKeepMatchesSpecUptoSaid : Prop := trackKeepMatchesSpecUptoRow.holds Try.pinned (OpenSpec.upto trackKeepMatchesSpecSpec)

/-- 'harrierlaw4.EffortStreamsMatchSpec', WHERE WHAT IT READS IS OF BULK AT MOST 1048576: true; the input reads as it did. -/
def effortStreamsMatchSpecUptoRow : OpenClaim := { program := "ytimfgplihppeeaa", sum := "dc558f25e06a3324b2cb7c3f8d1669a88faf69b42f7589888d2c706a4e9390d2", func := "harrier/harrierlaw4.EffortStreamsMatchSpec", spec := "effortStreamsMatchSpec", unfollowed := true, recurses := true, apart := false, narrowed := true }
def EffortStreamsMatchSpecUptoSaid : Prop := effortStreamsMatchSpecUptoRow.holds Try.pinned (OpenSpec.upto effortStreamsMatchSpecSpec)

/-- 'harrierlaw4.EffortLapsMatchSpec', WHERE WHAT IT READS IS OF BULK AT MOST 1048576: true; the input reads as it did. -/
def effortLapsMatchSpecUptoRow : OpenClaim := { program := "ytimfgplihppeeaa", sum := "dc558f25e06a3324b2cb7c3f8d1669a88faf69b42f7589888d2c706a4e9390d2", func := "harrier/harrierlaw4.EffortLapsMatchSpec", spec := "effortLapsMatchSpec", unfollowed := true, recurses := true, apart := false, narrowed := true }
def EffortLapsMatchSpecUptoSaid : Prop := effortLapsMatchSpecUptoRow.holds Try.pinned (OpenSpec.upto effortLapsMatchSpecSpec)

/-- 'harrierlaw4.EffortPartsMatchSpec', WHERE WHAT IT READS IS OF BULK AT MOST 1048576: true; the input reads as it did. -/
def effortPartsMatchSpecUptoRow : OpenClaim := { program := "ytimfgplihppeeaa", sum := "dc558f25e06a3324b2cb7c3f8d1669a88faf69b42f7589888d2c706a4e9390d2", func := "harrier/harrierlaw4.EffortPartsMatchSpec", spec := "effortPartsMatchSpec", unfollowed := true, recurses := true, apart := false, narrowed := true }
def EffortPartsMatchSpecUptoSaid : Prop := effortPartsMatchSpecUptoRow.holds Try.pinned (OpenSpec.upto effortPartsMatchSpecSpec)

/-- 'harrierlaw4.EffortPartsAddUp', WHERE WHAT IT READS IS OF BULK AT MOST 1048576: true; the input reads as it did. -/
def effortPartsAddUpUptoRow : OpenClaim := { program := "ytimfgplihppeeaa", sum := "dc558f25e06a3324b2cb7c3f8d1669a88faf69b42f7589888d2c706a4e9390d2", func := "harrier/harrierlaw4.EffortPartsAddUp", spec := "effortPartsAddUp", unfollowed := true, recurses := true, apart := false, narrowed := true }
def EffortPartsAddUpUptoSaid : Prop := effortPartsAddUpUptoRow.holds Try.pinned (OpenSpec.upto effortPartsAddUpSpec)

/-- 'harrierlaw4.EffortBestMatchesSpec', WHERE WHAT IT READS IS OF BULK AT MOST 1048576: true; the input reads as it did. -/
def effortBestMatchesSpecUptoRow : OpenClaim := { program := "ytimfgplihppeeaa", sum := "dc558f25e06a3324b2cb7c3f8d1669a88faf69b42f7589888d2c706a4e9390d2", func := "harrier/harrierlaw4.EffortBestMatchesSpec", spec := "effortBestMatchesSpec", unfollowed := true, recurses := true, apart := false, narrowed := true }
def EffortBestMatchesSpecUptoSaid : Prop := effortBestMatchesSpecUptoRow.holds Try.pinned (OpenSpec.upto effortBestMatchesSpecSpec)

/-- 'harrierlaw3.TrackRestsMatchSpec', WHERE WHAT IT READS IS OF BULK AT MOST 1048576: true; the input reads as it did. -/
def trackRestsMatchSpecUptoRow : OpenClaim := { program := "ytimfgplihppeeaa", sum := "dc558f25e06a3324b2cb7c3f8d1669a88faf69b42f7589888d2c706a4e9390d2", func := "harrier/harrierlaw3.TrackRestsMatchSpec", spec := "trackRestsMatchSpec", unfollowed := true, recurses := true, apart := false, narrowed := true }
def TrackRestsMatchSpecUptoSaid : Prop := trackRestsMatchSpecUptoRow.holds Try.pinned (OpenSpec.upto trackRestsMatchSpecSpec)

end Rows
end Go.Proofs.Ytimfgplihppeeaa
