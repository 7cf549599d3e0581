/- An activity that comes in as an argument: its tags are no more than their slice's capacity. -/
import Derived.Test.YtgkhhfojioepgaaTActIn
namespace Go.Proofs.Ytgkhhfojioepgaa
open Go.Joins Go.ChangeShapes Go.WideShapes Go.RowKit Go.Deep
set_option linter.unusedSimpArgs false
set_option linter.unusedVariables false
section
variable {H : Type} {enc : TypeId × Value → H} {w : World} {base : Nat} {spare : Nat → Bool} {held : Bool}
theorem tags_cap {fuel : Nat} {ao : Option Addr} {n cap : Nat} {y : DataW H × List MemPlace} (h : DataW.trod enc Try.prog w base spare held fuel 24 [.slice ao n cap] = some y) : n ≤ cap := by
  rcases open_slice1 Try.underlying24 cells_str h with ⟨hcs, _⟩ | ⟨a, len, cp, m, n', V, D, Pl, hcs, hb, hl, _⟩
  · simp only [List.cons.injEq, and_true, Value.slice.injEq] at hcs
    omega
  · simp only [List.cons.injEq, and_true, Value.slice.injEq] at hcs
    omega
set_option maxRecDepth 100000 in
theorem act_tcap {r : Reach} {b0 : Nat} {a : Act} {d : DataW H} {p : List MemPlace} (hv : Value.okWide Try.prog w r b0 26 a.val) (h : DataW.Trod enc Try.prog w base spare held 26 a.val d p) : a.ts.length ≤ a.tc := by
  obtain ⟨l, ys, n, hl0, hl, rfl, hf⟩ := agg_in (enc := enc) (w := w) (P := Try.prog) (t := 26) Try.underlying26 (by kernel_rfl) (by kernel_rfl) hv h
  have hl1 : l = [.string a.name, .int .i64 a.sport, .int .i64 a.start, .slice a.so a.ss.length a.sc, .slice a.lo a.ls.length a.lc, .slice a.to_ a.ts.length a.tc] := by
    have q := congrArg (fun v => match v with | Value.agg c => c.toList | _ => []) hl0
    simpa using q.symm
  subst hl1
  obtain ⟨_, y5, c5, e5, t5⟩ := hf 5 _ rfl
  cases c5
  exact tags_cap t5
end
end Go.Proofs.Ytgkhhfojioepgaa
