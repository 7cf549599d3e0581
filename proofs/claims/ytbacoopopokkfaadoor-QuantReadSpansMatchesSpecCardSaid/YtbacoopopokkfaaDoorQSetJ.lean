/- The contracts of what the reference asks of ends and of spans: in, end, keeps. -/
import Derived.Test.YtbacoopopokkfaaDoorQSetG
namespace Go.Proofs.YtbacoopopokkfaaDoor
open Go.RowKit Go.Shelf
set_option linter.unusedSimpArgs false
set_option linter.unusedVariables false

/-- The end with a number. -/
def nthE (L : List SpV) (i : Nat) : Int := if i % 2 = 0 then (L.getD (i / 2) ⟨0, 0⟩).fr else (L.getD (i / 2) ⟨0, 0⟩).to_ + 1
theorem ends_at : ∀ (L : List SpV) (i : Nat), i < 2 * L.length → (endsV L).drop i = nthE L i :: (endsV L).drop (i + 1)
  | [], i, h => absurd h (by simp)
  | x :: r, 0, _ => rfl
  | x :: r, 1, _ => rfl
  | x :: r, i + 2, h => by
    have ih := ends_at r i (by simp only [List.length_cons] at h; omega)
    show (endsV r).drop i = _
    rw [ih]
    have e1 : (i + 2) % 2 = i % 2 := by omega
    have e2 : (i + 2) / 2 = i / 2 + 1 := by omega
    unfold nthE
    rw [e1, e2]
    rfl
theorem endsV_len (L : List SpV) : (endsV L).length = 2 * L.length := by
  induction L with
  | nil => rfl
  | cons x L ih =>
    show (x.fr :: (x.to_ + 1) :: endsV L).length = _
    simp only [List.length_cons, ih]; omega

end Go.Proofs.YtbacoopopokkfaaDoor
