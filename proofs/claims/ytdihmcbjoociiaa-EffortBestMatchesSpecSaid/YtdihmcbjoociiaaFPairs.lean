/- Races and tests in memory. -/
import Derived.Test.YtdihmcbjoociiaaFRaceP
namespace Go.Proofs.Ytdihmcbjoociiaa
open Go.RowKit

/-- Pairs of numbers lie at an address. -/
structure PairsAt (w : World) (ao : Option Addr) (l : List RaceV) : Prop where
  nil : ao = none → l = []
  spot : ∀ a, ao = some a → l ≠ [] → a.spot = none
  cells : ∀ a, ao = some a → ∀ i, i < l.length → w.cell? ⟨a.block, a.off + i * 2, none⟩ = some (.int .i64 (raceD l i).way) ∧ w.cell? ⟨a.block, a.off + i * 2 + 1, none⟩ = some (.int .i64 (raceD l i).sec)
theorem PairsAt.grown {w w' : World} {ao : Option Addr} {l : List RaceV} (h : PairsAt w ao l) (g : w.grownBy w' none) : PairsAt w' ao l :=
  ⟨h.nil, h.spot, fun a ha i hi => ⟨grown_cell g (h.cells a ha i hi).1, grown_cell g (h.cells a ha i hi).2⟩⟩
theorem PairsAt.at {w : World} {ao : Option Addr} {l : List RaceV} (h : PairsAt w ao l) (hne : 0 < l.length) : ∃ b off, ao = some ⟨b, off, none⟩ ∧ ∀ i, i < l.length → w.cell? ⟨b, off + i * 2, none⟩ = some (.int .i64 (raceD l i).way) ∧ w.cell? ⟨b, off + i * 2 + 1, none⟩ = some (.int .i64 (raceD l i).sec) := by
  have hn : l ≠ [] := fun e => by rw [e] at hne; simp at hne
  cases hao : ao with
  | none => exact absurd (h.nil hao) hn
  | some a =>
    obtain ⟨b, off, s⟩ := a
    have hs := h.spot _ hao hn
    simp only at hs
    subst hs
    exact ⟨b, off, rfl, fun i hi => h.cells _ hao i hi⟩

end Go.Proofs.Ytdihmcbjoociiaa
