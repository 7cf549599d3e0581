/- What PartOf returns: its error, and its result by it. -/
import Derived.Test.YtmfnphknoclhfaaEPartQ
import Derived.Test.YtmfnphknoclhfaaESpan
namespace Go.Proofs.Ytmfnphknoclhfaa
open Go.RowKit

noncomputable def partE (a : Act) (f t : Int) : Int := if chkE a = 0 then (if 0 ≤ f ∧ f ≤ t ∧ t ≤ spanL a.ss then 0 else 9) else chkE a
noncomputable def resA (E : Int) (x : Prt) (f t : Int) : Array Value := if E = 0 then x.cells f t else #[.int .i64 0, .int .i64 0, .int .i64 0, .int .i64 0, .int .i64 0, .int .i64 0, .int .i64 0, .int .i64 0, .int .i64 0, .int .i64 0]
end Go.Proofs.Ytmfnphknoclhfaa
