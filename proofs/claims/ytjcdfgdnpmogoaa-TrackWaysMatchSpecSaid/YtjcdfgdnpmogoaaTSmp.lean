/- Samples by their numbers; memory that grew by a row. -/
import Derived.Test.YtjcdfgdnpmogoaaTStep
namespace Go.Proofs.Ytjcdfgdnpmogoaa
open Go.RowKit

def smpD (ss : List Smp) (k : Nat) : Smp := ss.getD k ⟨0, 0, 0, 0, 0, 0, 0⟩
theorem smpD_at {ss : List Smp} {k : Nat} (h : k < ss.length) : smpD ss k = ss[k] := by
  unfold smpD; rw [List.getD_eq_getElem?_getD, List.getElem?_eq_getElem h]; rfl

theorem smpD_plane {ss : List Smp} (hp : ∀ x ∈ ss, inPlane x) (k : Nat) : inPlane (smpD ss k) := by
  unfold smpD
  rcases Nat.lt_or_ge k ss.length with h | h
  · rw [List.getD_eq_getElem?_getD, List.getElem?_eq_getElem h]
    exact hp _ (List.getElem_mem h)
  · rw [List.getD_eq_getElem?_getD, List.getElem?_eq_none h]
    simp only [Option.getD_none]; unfold inPlane; simp only; omega

theorem grown_own {w wr w1 : World} {o : Obj} {row : Option Nat} (h : w.grownBy wr none) (g : (wr.alloc o).grownBy w1 row) (hr : ∀ k, row = some k → w.heap.size ≤ k) : w.grownBy w1 none :=
  ⟨g.os.trans h.os, g.tape.trans h.tape, g.output.trans h.output, by have := g.size; have := h.size; simp at *; omega, fun k hk _ => by
    have hs := h.size
    rw [g.block k (by simp; omega) (fun e => by have := hr k e.symm; omega), Below.heap_alloc _ _ _ (by omega)]
    exact h.block k hk (by simp)⟩

end Go.Proofs.Ytjcdfgdnpmogoaa
