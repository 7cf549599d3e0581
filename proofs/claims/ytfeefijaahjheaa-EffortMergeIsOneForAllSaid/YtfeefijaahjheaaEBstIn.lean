/- Curves that come in as arguments: their cells. -/
import Derived.Test.YtfeefijaahjheaaRowIn
import Derived.Test.YtfeefijaahjheaaECurP
namespace Go.Proofs.Ytfeefijaahjheaa
open Go.Joins Go.ChangeShapes Go.WideShapes Go.RowKit Go.Deep
set_option linter.unusedSimpArgs false
set_option linter.unusedVariables false

instance : Inhabited BestV := ⟨⟨0, 0, 0, false⟩⟩
theorem cells_bst : Try.prog.cellsOf 24 = 4 := by kernel_rfl
theorem bytes_bst : Try.prog.bytesOf 24 = 32 := by kernel_rfl
theorem cell_int : Try.prog.cellsOf 3 = 1 := by kernel_rfl
theorem cell_bool : Try.prog.cellsOf 4 = 1 := by kernel_rfl
section
variable {H : Type} {enc : TypeId × Value → H} {w : World} {base : Nat} {spare : Nat → Bool} {held : Bool} {r : Reach} {b0 : Nat}
set_option maxRecDepth 100000 in
theorem bst_cells {n : Nat} {cs : List Value} {x : DataW H × List MemPlace} (h : DataW.trod enc Try.prog w base spare held n 24 cs = some x) : ∃ p : BestV, cs = bestCs p := by
  obtain ⟨hl, n2, hf⟩ := fields_inR Try.underlying24 h
  rw [cells_bst] at hl
  match cs, hl with
  | [c0, c1, c2, c3], _ =>
    obtain ⟨_, h0⟩ := hf 0 _ rfl
    obtain ⟨_, h1⟩ := hf 1 _ rfl
    obtain ⟨_, h2⟩ := hf 2 _ rfl
    obtain ⟨_, h3⟩ := hf 3 _ rfl
    obtain ⟨z0, e0⟩ := int_inR (v := c0) Try.underlying3 h0
    obtain ⟨z1, e1⟩ := int_inR (v := c1) Try.underlying3 h1
    obtain ⟨z2, e2⟩ := int_inR (v := c2) Try.underlying3 h2
    obtain ⟨z3, e3⟩ := bool_inR (v := c3) Try.underlying4 h3
    subst e0; subst e1; subst e2; subst e3
    exact ⟨⟨z0, ⟨z1, z2, z3⟩⟩, rfl⟩
set_option maxRecDepth 100000 in
theorem bests_in {v : Value} {d : DataW H} {p : List MemPlace} (hv : Value.okWide Try.prog w r b0 35 v) (h : DataW.Trod enc Try.prog w base spare held 35 v d p) (hz : ∀ m ∈ d.weights Try.prog 35, m ≤ reachBytes) :
    ∃ (ao : Option Addr) (cap : Nat) (l : List BestV), v = .slice ao l.length cap ∧ (l.length : Int) ≤ 4398046511104 ∧ RowsAt bestCs 4 w ao l ∧ l.length ≤ cap := by
  obtain ⟨a0, len0, cap0, rfl⟩ := okWide_slice Try.underlying35 hv
  obtain ⟨fuel, hf⟩ := h
  obtain ⟨ao, cap, l, hv, h1, h2, h3⟩ := rows_inR cells_bst (by omega) (fun _ => rfl) Try.underlying35 (fun h => bst_cells h) hf
  have q := bytes_inR Try.underlying35 bytes_bst hf hz
  rw [Value.slice.injEq] at hv
  obtain ⟨e1, e2, e3⟩ := hv
  subst e1; subst e2; subst e3
  exact ⟨_, _, l, rfl, by omega, h3, h1⟩
end
end Go.Proofs.Ytfeefijaahjheaa
