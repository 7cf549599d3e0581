/- Numbers that come in as an argument: their cells. -/
import Derived.Test.YtgkhhfojioepgaaEInts
import Derived.Lib.SmallJoins
import Derived.Deep.Slices
import Derived.ChangeSame
import Derived.ChangeSlices
import Derived.ProofKit
namespace Go.Proofs.Ytgkhhfojioepgaa
open Go.Joins Go.ChangeShapes Go.WideShapes Go.RowKit Go.Deep
set_option linter.unusedSimpArgs false
set_option linter.unusedVariables false

theorem addr_add_i {a : Addr} (h : a.spot = none) (n : Nat) : a.add n = ⟨a.block, a.off + n, none⟩ := by
  obtain ⟨b, o, s⟩ := a
  simp only at h
  subst h
  unfold Addr.add
  split
  · rename_i h; subst h; rfl
  · rfl
theorem cells_one_int : Try.prog.cellsOf 3 = 1 := by kernel_rfl

set_option maxRecDepth 100000 in
theorem ints_in {H : Type} {enc : TypeId × Value → H} {w : World} {base : Nat} {spare : Nat → Bool} {held : Bool} {r : Reach} {b0 : Nat} {v : Value} {d : DataW H} {p : List MemPlace}
    (hv : Value.okWide Try.prog w r b0 48 v) (h : DataW.Trod enc Try.prog w base spare held 48 v d p) :
    ∃ (ao : Option Addr) (cap : Nat) (ws : List Int), v = .slice ao ws.length cap ∧ (ws.length : Int) ≤ 9223372036854775807 ∧ IntsAt w ao ws ∧ ws.length ≤ cap := by
  obtain ⟨a0, len, cap, rfl⟩ := okWide_slice Try.underlying48 hv
  obtain ⟨fuel, hf⟩ := h
  rcases open_ints Try.underlying48 Try.underlying3 cells_one_int hf with ⟨hcs, _⟩ | ⟨a, len', cap', zs, hcs, _, hl, hm, hz, _, hcell, _⟩
  · simp [Value.cells] at hcs
    obtain ⟨rfl, rfl, rfl⟩ := hcs
    exact ⟨none, 0, [], rfl, by simp, ⟨fun _ => rfl, fun a h => by simp at h, fun a h => by simp at h⟩, Nat.le_refl _⟩
  · simp [Value.cells] at hcs
    obtain ⟨rfl, rfl, rfl⟩ := hcs
    have hlz : len ≤ zs.length := by rw [hz]; split <;> omega
    have hlen : (zs.take len).length = len := by rw [List.length_take]; omega
    have hn : ∀ i, i < len → nthI (zs.take len) i = zs.getD i 0 := fun i hi => by
      unfold nthI; rw [List.getD_eq_getElem?_getD, List.getD_eq_getElem?_getD, List.getElem?_take_of_lt hi]
    have hsp : 0 < len → a.spot = none := fun h0 => by
      have := hcell 0 (by omega)
      simpa [Addr.add] using World.cell?_spot this
    refine ⟨some a, cap, zs.take len, by rw [hlen], ?_, ⟨fun h => by simp at h, fun a' h hne => ?_, fun a' h i hi => ?_⟩, by rw [hlen]; exact hl⟩
    · rw [hlen]
      unfold maxLen at hm
      omega
    · cases h
      refine hsp ?_
      cases len with
      | zero => simp at hne
      | succ n => omega
    · cases h
      rw [hlen] at hi
      have := hcell i (by omega)
      rw [addr_add_i (hsp (by omega))] at this
      rw [hn i hi]; exact this
end Go.Proofs.Ytgkhhfojioepgaa
