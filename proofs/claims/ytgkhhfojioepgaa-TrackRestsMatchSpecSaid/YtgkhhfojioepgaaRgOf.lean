/- A region of a function, found by its number. No program. -/
import Derived.Deep.RegionHeld3
namespace Go.Proofs.Ytgkhhfojioepgaa
set_option linter.unusedSimpArgs false
set_option linter.unusedVariables false

def findRg (n : Nat) : Code → Option Code
  | .region m ops b => match Nat.beq m n with
    | true => some (.region m ops b)
    | false => none
  | .seq a b => match findRg n a with
    | some c => some c
    | none => findRg n b
  | .cond _ a b => match findRg n a with
    | some c => some c
    | none => findRg n b
  | .block _ c => findRg n c
  | .loop c => findRg n c
  | .rangeFunc _ _ a b => match findRg n a with
    | some c => some c
    | none => findRg n b
  | .scope c => findRg n c
  | _ => none
def rgOf (n : Nat) (f : Func) : Code := match f.body with
  | some c => (match findRg n c with
    | some r => r
    | none => .skip)
  | none => .skip
end Go.Proofs.Ytgkhhfojioepgaa
