/- What Resample returns, purely. -/
import Derived.Test.YtgkhhfojioepgaaTAtO
import Derived.Test.YtgkhhfojioepgaaTRows
namespace Go.Proofs.Ytgkhhfojioepgaa
open Go.RowKit
set_option linter.unusedSimpArgs false
set_option linter.unusedVariables false

/-- Where somebody was at a second. -/
noncomputable def sampV (ss : List Smp) (s : Int) : Smp := atV ss s (idxV ss s)
def cntR (sp step : Int) : Nat := ((sp + step - 1) / step).toNat
noncomputable def resK (ss : List Smp) (step : Int) (k : Nat) : List Smp := (List.range k).map fun (j : Nat) => sampV ss ((j : Int) * step)
theorem resK_zero (ss : List Smp) (step : Int) : resK ss step 0 = [] := rfl
theorem resK_succ (ss : List Smp) (step : Int) (k : Nat) : resK ss step (k + 1) = resK ss step k ++ [sampV ss ((k : Int) * step)] := by
  unfold resK; rw [List.range_succ, List.map_append]; rfl
theorem resK_len (ss : List Smp) (step : Int) (k : Nat) : (resK ss step k).length = k := by unfold resK; simp
theorem cntR_val {sp step : Int} (h0 : 0 ≤ sp) (h1 : 1 ≤ step) : (cntR sp step : Int) = (sp + step - 1) / step := by
  have : 0 ≤ (sp + step - 1) / step := Int.ediv_nonneg (by omega) (by omega)
  unfold cntR; omega
theorem cntR_lt {sp step : Int} (h0 : 0 ≤ sp) (h1 : 1 ≤ step) (k : Nat) : (k : Int) * step < sp ↔ k < cntR sp step := by
  have hv := cntR_val h0 h1
  have h := Int.le_ediv_iff_mul_le (a := (k : Int) + 1) (b := sp + step - 1) (c := step) (by omega)
  rw [← hv] at h
  have e : ((k : Int) + 1) * step = (k : Int) * step + step := by rw [Int.add_mul, Int.one_mul]
  rw [e] at h
  constructor
  · intro q; have := h.2 (by omega); omega
  · intro q; have := h.1 (by omega); omega
theorem span_bd2 {ss : List Smp} (h : SOk ss) : 0 ≤ spanL ss ∧ spanL ss ≤ 1000000 := by
  by_cases h0 : ss.length = 0
  · have e : ss = [] := List.eq_nil_of_length_eq_zero h0
    subst e; exact ⟨Int.le_refl _, by decide⟩
  · rw [span_last h0]
    have := h.inn (ss.length - 1) (by omega)
    omega
noncomputable def resL (ss : List Smp) (step : Int) : List Smp := resK ss step (cntR (spanL ss) step) ++ [sampV ss (spanL ss)]
theorem resL_len (ss : List Smp) (step : Int) : (resL ss step).length = cntR (spanL ss) step + 1 := by unfold resL; simp [resK_len]
open Classical in
/-- What Resample returns: the content of an activity, and an error. -/
noncomputable def resO (a : Act) (step : Int) : Act × Int :=
  if chkE a = 0 then
    if 1 ≤ step ∧ step ≤ 1000000 then
      if (cntR (spanL a.ss) step : Int) + 1 ≤ 20000 then
        if a.ss.length = 0 then (a, 0) else ({ a with ss := resL a.ss step }, 0)
      else (act0, 3)
    else (act0, 9)
  else (act0, chkE a)
end Go.Proofs.Ytgkhhfojioepgaa
