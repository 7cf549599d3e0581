/- An activity that comes in as an argument: its samples take no more memory than there is. -/
import Derived.Test.YtgkhhfojioepgaaTActIn
namespace Go.Proofs.Ytgkhhfojioepgaa
open Go.Joins Go.ChangeShapes Go.WideShapes Go.RowKit Go.Deep
set_option linter.unusedSimpArgs false
set_option linter.unusedVariables false

theorem bytes_smp : Try.prog.bytesOf 28 = 56 := by kernel_rfl
section
variable {H : Type} {enc : TypeId × Value → H} {w : World} {base : Nat} {spare : Nat → Bool} {held : Bool}
theorem samples_len {fuel : Nat} {ao : Option Addr} {n cap : Nat} {y : DataW H × List MemPlace} (h : DataW.trod enc Try.prog w base spare held fuel 22 [.slice ao n cap] = some y) (hz : ∀ m ∈ y.1.weights Try.prog 22, m ≤ reachBytes) : n * 56 ≤ 140737488355328 := by
  rcases open_slice Try.underlying22 h with ⟨hcs, _⟩ | ⟨a, len, cp, m, n', D, Pl, hcs, hb, hl, hm, hmm, hx, hi⟩
  · simp only [List.cons.injEq, and_true, Value.slice.injEq] at hcs
    omega
  · simp only [List.cons.injEq, and_true, Value.slice.injEq] at hcs
    subst hx
    have q := hz ((((List.range len).map D).length + ((List.range (m - len)).map fun j => D (len + j)).length) * Try.prog.bytesOf 28) (by simp only [DataW.weights, Try.underlying22, List.mem_cons, true_or])
    rw [bytes_smp] at q
    simp only [List.length_map, List.length_range] at q
    have r : reachBytes ≤ 140737488355328 := by decide
    have e : n = len := hcs.2.1
    rw [e]
    have : len * 56 ≤ (len + (m - len)) * 56 := Nat.mul_le_mul_right _ (by omega)
    omega
set_option maxRecDepth 100000 in
theorem act_len {r : Reach} {b0 : Nat} {a : Act} {d : DataW H} {p : List MemPlace} (hv : Value.okWide Try.prog w r b0 26 a.val) (h : DataW.Trod enc Try.prog w base spare held 26 a.val d p)
    (hz : ∀ m ∈ d.weights Try.prog 26, m ≤ reachBytes) : a.ss.length * 56 ≤ 140737488355328 := by
  obtain ⟨l, ys, n, hl0, hl, rfl, hf⟩ := agg_in (enc := enc) (w := w) (P := Try.prog) (t := 26) Try.underlying26 (by kernel_rfl) (by kernel_rfl) hv h
  have hl1 : l = [.string a.name, .int .i64 a.sport, .int .i64 a.start, .slice a.so a.ss.length a.sc, .slice a.lo a.ls.length a.lc, .slice a.to_ a.ts.length a.tc] := by
    have q := congrArg (fun v => match v with | Value.agg c => c.toList | _ => []) hl0
    simpa using q.symm
  subst hl1
  obtain ⟨_, y3, c3, e3, t3⟩ := hf 3 _ rfl
  cases c3
  exact samples_len t3 (fun k hk => hz k (weights_agg Try.underlying26 (j := 3) rfl e3 k hk))
end
end Go.Proofs.Ytgkhhfojioepgaa
