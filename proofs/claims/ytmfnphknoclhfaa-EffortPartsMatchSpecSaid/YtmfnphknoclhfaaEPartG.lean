/- A region of a function, found by its number; a region that adds to a cell of a box. -/
import Derived.Test.YtmfnphknoclhfaaEPartQ
import Derived.Test.YtmfnphknoclhfaaEApp
import Derived.Test.YtmfnphknoclhfaaFLate
import Derived.Deep.RegionHeld3
namespace Go.Proofs.Ytmfnphknoclhfaa
open Go.RowKit

/-- The region with a number within a code. -/
def findReg (n : Nat) : Code → Option Code
  | .region m ops b => match Nat.beq m n with
    | true => some (.region m ops b)
    | false => none
  | .seq a b => match findReg n a with
    | some c => some c
    | none => findReg n b
  | .cond _ a b => match findReg n a with
    | some c => some c
    | none => findReg n b
  | .block _ c => findReg n c
  | .loop c => findReg n c
  | .rangeFunc _ _ a b => match findReg n a with
    | some c => some c
    | none => findReg n b
  | .scope c => findReg n c
  | _ => none
def regOf (n : Nat) (f : Func) : Code := match f.body with
  | some c => (match findReg n c with
    | some r => r
    | none => .skip)
  | none => .skip

/-- What such a region keeps: the cell is as it was till it is stored; another box stays. -/
def latePt (X fi : Nat) (y : Int) (B : Nat) (cs : Array Value) (t : TypeId) (wc : World) (L : Array Bool) (V : World) : Prop := (L.getD 10 false = false → V.cell? ⟨X, fi, none⟩ = some (.int .i64 y)) ∧ wc.grownBy V (some X) ∧ V.heap[B]? = some (.cells cs t (0, 0))
section
variable {X fi B i : Nat} {y : Int} {cs : Array Value} {t : TypeId} {wc : World} {ops : Array Oper} {md : Region.Mode} {op : Oper} {W : World}
theorem latePt_iff (h1 : i ≠ 10) (L : Array Bool) (V : World) : latePt X fi y B cs t wc (L.setIfInBounds i true) V ↔ latePt X fi y B cs t wc L V := by
  unfold latePt; rw [getD_set_ne false h1]
theorem latePt_c (h : Before md ops (latePt X fi y B cs t wc) i W) (ho : ops[10]? = some op) (he : (op.after.any fun e => Region.binds md e && e.on == i) = true) : W.cell? ⟨X, fi, none⟩ = some (.int .i64 y) := by
  obtain ⟨L, hc, hf, hs⟩ := h
  exact hs.1 (closed_not hc ho he hf)
theorem latePt_b (h : Before md ops (latePt X fi y B cs t wc) i W) : W.heap[B]? = some (.cells cs t (0, 0)) := by
  obtain ⟨L, hc, hf, hs⟩ := h
  exact hs.2.2
theorem latePt_more {L : Array Bool} {V V' : World} (h : latePt X fi y B cs t wc L V) (g : V.grownBy V' none) : latePt X fi y B cs t wc L V' :=
  ⟨fun e => grown_cell g (h.1 e), grown_then h.2.1 g, (g.block B (Array.getElem?_eq_some_iff.1 h.2.2).1 (by simp)).trans h.2.2⟩
end
end Go.Proofs.Ytmfnphknoclhfaa
