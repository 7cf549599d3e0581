/- A book's calls in memory: three numbers each. -/
import Derived.Test.YteaifonpkdjkcaaFRaceP
namespace Go.Proofs.Yteaifonpkdjkcaa
open Go.RowKit
set_option linter.unusedSimpArgs false
set_option linter.unusedVariables false

/-- One call: what it is, and its two numbers. -/
structure CallV where
  op : Int
  x : Int
  y : Int
def callD (l : List CallV) (i : Nat) : CallV := l.getD i ⟨0, 0, 0⟩

/-- Calls lie at an address. -/
structure CallsAt (w : World) (ao : Option Addr) (l : List CallV) : Prop where
  nil : ao = none → l = []
  spot : ∀ a, ao = some a → l ≠ [] → a.spot = none
  cells : ∀ a, ao = some a → ∀ i, i < l.length → w.cell? ⟨a.block, a.off + i * 3, none⟩ = some (.int .i64 (callD l i).op) ∧ w.cell? ⟨a.block, a.off + i * 3 + 1, none⟩ = some (.int .i64 (callD l i).x) ∧ w.cell? ⟨a.block, a.off + i * 3 + 2, none⟩ = some (.int .i64 (callD l i).y)
theorem CallsAt.grown {w w' : World} {ao : Option Addr} {l : List CallV} (h : CallsAt w ao l) (g : w.grownBy w' none) : CallsAt w' ao l :=
  ⟨h.nil, h.spot, fun a ha i hi => ⟨grown_cell g (h.cells a ha i hi).1, grown_cell g (h.cells a ha i hi).2.1, grown_cell g (h.cells a ha i hi).2.2⟩⟩
theorem CallsAt.at {w : World} {ao : Option Addr} {l : List CallV} (h : CallsAt w ao l) (hne : 0 < l.length) : ∃ b off, ao = some ⟨b, off, none⟩ ∧ ∀ i, i < l.length → w.cell? ⟨b, off + i * 3, none⟩ = some (.int .i64 (callD l i).op) ∧ w.cell? ⟨b, off + i * 3 + 1, none⟩ = some (.int .i64 (callD l i).x) ∧ w.cell? ⟨b, off + i * 3 + 2, none⟩ = some (.int .i64 (callD l i).y) := by
  have hn : l ≠ [] := fun e => by rw [e] at hne; simp at hne
  cases hao : ao with
  | none => exact absurd (h.nil hao) hn
  | some a =>
    obtain ⟨b, off, s⟩ := a
    have hs := h.spot _ hao hn
    simp only at hs
    subst hs
    exact ⟨b, off, rfl, fun i hi => h.cells _ hao i hi⟩

end Go.Proofs.Yteaifonpkdjkcaa
