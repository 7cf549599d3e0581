/- Spans that come in as arguments: their cells. -/
import Derived.Test.YtbacoopopokkfaaDoorRowIn
import Derived.Test.YtbacoopopokkfaaDoorQSpB
namespace Go.Proofs.YtbacoopopokkfaaDoor
open Go.Joins Go.ChangeShapes Go.WideShapes Go.RowKit Go.Deep
set_option linter.unusedSimpArgs false
set_option linter.unusedVariables false

theorem cells_sp : Tryd.prog.cellsOf 37 = 2 := by kernel_rfl
theorem cell_int : Tryd.prog.cellsOf 3 = 1 := by kernel_rfl
section
variable {H : Type} {enc : TypeId × Value → H} {w : World} {base : Nat} {spare : Nat → Bool} {held : Bool} {r : Reach} {b0 : Nat}
set_option maxRecDepth 100000 in
theorem sp_cells {n : Nat} {cs : List Value} {x : DataW H × List MemPlace} (h : DataW.trod enc Tryd.prog w base spare held n 37 cs = some x) : ∃ p : SpV, cs = spCs p := by
  obtain ⟨hl, n2, hf⟩ := fields_inR Tryd.underlying37 h
  rw [cells_sp] at hl
  match cs, hl with
  | [c0, c1], _ =>
    obtain ⟨_, h0⟩ := hf 0 _ rfl
    obtain ⟨_, h1⟩ := hf 1 _ rfl
    obtain ⟨z0, e0⟩ := int_inR (v := c0) Tryd.underlying3 h0
    obtain ⟨z1, e1⟩ := int_inR (v := c1) Tryd.underlying3 h1
    subst e0; subst e1
    exact ⟨⟨z0, z1⟩, rfl⟩
set_option maxRecDepth 100000 in
theorem spans_in {v : Value} {d : DataW H} {p : List MemPlace} (hv : Value.okWide Tryd.prog w r b0 22 v) (h : DataW.Trod enc Tryd.prog w base spare held 22 v d p) :
    ∃ (ao : Option Addr) (cap : Nat) (l : List SpV), v = .slice ao l.length cap ∧ (l.length : Int) ≤ 9223372036854775807 ∧ RowsAt spCs 2 w ao l ∧ l.length ≤ cap := by
  obtain ⟨a0, len0, cap0, rfl⟩ := okWide_slice Tryd.underlying22 hv
  obtain ⟨fuel, hf⟩ := h
  obtain ⟨ao, cap, l, hv, h1, h2, h3⟩ := rows_inR cells_sp (by omega) (fun _ => rfl) Tryd.underlying22 (fun h => sp_cells h) hf
  exact ⟨ao, cap, l, hv, by omega, h3, h1⟩
end
end Go.Proofs.YtbacoopopokkfaaDoor
