/- A region that draws its order and holds calls that make memory of their own: the worlds are those that have grown. No program. -/
import Derived.Deep.RegionHeld3
import Derived.Deep.QuietTactic
import Derived.Deep.OwnRows
namespace Go.Proofs.YtbacoopopokkfaaGreatDoor
set_option linter.unusedSimpArgs false
set_option linter.unusedVariables false

/-- A world that has grown. -/
structure GrV (W : World) where
  V : World
  h : W.grownBy V none
instance (W : World) : Inhabited (GrV W) := ⟨⟨W, ⟨rfl, rfl, rfl, Nat.le_refl _, fun _ _ _ => rfl⟩⟩⟩
theorem wp_region_quiet_gv {P : Program} {id : Nat} {Q : Exit → Go.Act → World → Prop} {a : Go.Act} {W : World} {l : List Oper} (hm : P.follows .mixedOrders = true) (hB : Region.lexB .any l.toArray = true)
    (h : wpQuiet P l.toArray (fun w' => ∃ p : GrV W, w' = p.V) (fun a' => ∀ w', (∃ p : GrV W, w' = p.V) → Q .normal a' w') l a) : (Code.region id l.toArray true).wp P Q a W :=
  wp_region_quiet (C := fun w' => ∃ p : GrV W, w' = p.V) hm hB ⟨⟨W.drewN 1, ⟨rfl, rfl, rfl, Nat.le_refl _, fun _ _ _ => rfl⟩⟩, rfl⟩ (by simpa using h)
theorem GrV.calls {P : Program} {f : FuncId} {args : Array Value} {W : World} {p : GrV W} {v : Value} (h : Calls P f args p.V fun e w' => e = .returned v ∧ p.V.grownBy w' none) : Calls P f args p.V fun e w' => e = .returned v ∧ ∃ q : GrV W, w' = q.V :=
  h.mono fun _ w' ⟨he, hg⟩ => ⟨he, ⟨w', ⟨hg.os.trans p.h.os, hg.tape.trans p.h.tape, hg.output.trans p.h.output, Nat.le_trans p.h.size hg.size, fun k hk _ => (hg.block k (Nat.lt_of_lt_of_le hk p.h.size) (by simp)).trans (p.h.block k hk (by simp))⟩⟩, rfl⟩
end Go.Proofs.YtbacoopopokkfaaGreatDoor
