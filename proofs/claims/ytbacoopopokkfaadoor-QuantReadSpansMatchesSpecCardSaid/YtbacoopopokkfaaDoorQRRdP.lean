/- What the reference's ReadSpans checks, purely. -/
import Derived.Test.YtbacoopopokkfaaDoorQRdS
namespace Go.Proofs.YtbacoopopokkfaaDoor
set_option linter.unusedSimpArgs false
set_option linter.unusedVariables false

def outR (x : SpV) : Bool := decide (1000000000000 < x.fr) || decide (1000000000000 < x.to_)
theorem outR_is {x : SpV} (h : 0 ≤ x.fr ∧ x.fr ≤ 9999999999999 ∧ 0 ≤ x.to_ ∧ x.to_ ≤ 9999999999999) : outR x = outB x := by
  unfold outR outB
  rw [Bool.eq_iff_iff]
  simp only [Bool.or_eq_true, Bool.not_eq_true', decide_eq_true_eq, decide_eq_false_iff_not]
  omega
theorem any_outR {L : List SpV} (h : InR L) : L.any outR = L.any outB := by
  induction L with
  | nil => rfl
  | cons x r ih =>
    rw [List.any_cons, List.any_cons, outR_is (h x (by simp)), ih (fun y hy => h y (by simp [hy]))]
/-- The loop's end: the text is at its end, or there is a comma. -/
theorem word_comma {s : ByteArray} {k : Nat} (h : k < s.size) : wordV [44] (rem s k) = if s[k].toNat = 44 then (true, 1) else (false, 0) := by
  rw [rem_cons h]
  unfold wordV
  split
  · rw [wordV]
  · rfl
theorem word_dash {s : ByteArray} {k : Nat} (h : k < s.size) : wordV [45] (rem s k) = if s[k].toNat = 45 then (true, 1) else (false, 0) := by
  rw [rem_cons h]
  unfold wordV
  split
  · rw [wordV]
  · rfl
theorem word_end {s : ByteArray} {k : Nat} (c : Nat) (h : s.size ≤ k) : wordV [c] (rem s k) = (false, 0) := by
  rw [rem_nil h]; rfl
end Go.Proofs.YtbacoopopokkfaaDoor
