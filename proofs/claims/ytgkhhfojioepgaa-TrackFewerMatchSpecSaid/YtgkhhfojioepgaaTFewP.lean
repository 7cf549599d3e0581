/- The fewest samples between which the others are near, purely. -/
import Derived.Test.YtgkhhfojioepgaaTMissP
import Derived.Test.YtgkhhfojioepgaaTKeepL
namespace Go.Proofs.Ytgkhhfojioepgaa
open Go.RowKit
set_option linter.unusedSimpArgs false
set_option linter.unusedVariables false

/-- Of the samples behind i, after m of those behind the next one were looked at: the first one that is near with the fewest steps. -/
def fwB (S : Nat → Nat) (nr : Nat → Bool) (i : Nat) : Nat → Nat
  | 0 => i + 1
  | m + 1 => if S (i + 2 + m) < S (fwB S nr i m) ∧ nr (i + 2 + m) = true then i + 2 + m else fwB S nr i m
/-- The steps and the next ones, from behind, after d rounds. -/
def fwV (n : Nat) (nr : Nat → Nat → Bool) : Nat → (Nat → Nat) × (Nat → Nat)
  | 0 => (fun _ => 0, fun _ => 0)
  | d + 1 => (fun k => if k = n - 2 - d then (fwV n nr d).1 (fwB (fwV n nr d).1 (nr (n - 2 - d)) (n - 2 - d) d) + 1 else (fwV n nr d).1 k, fun k => if k = n - 2 - d then fwB (fwV n nr d).1 (nr (n - 2 - d)) (n - 2 - d) d else (fwV n nr d).2 k)
theorem fwB_in (S : Nat → Nat) (nr : Nat → Bool) (i : Nat) : ∀ m, i < fwB S nr i m ∧ fwB S nr i m ≤ i + 1 + m
  | 0 => by unfold fwB; omega
  | m + 1 => by
    have := fwB_in S nr i m
    unfold fwB
    split <;> omega
theorem fw_le (n : Nat) (nr : Nat → Nat → Bool) : ∀ d k, (fwV n nr d).1 k ≤ d
  | 0, k => by simp [fwV]
  | d + 1, k => by
    show (if k = n - 2 - d then _ + 1 else _) ≤ d + 1
    split
    · have := fw_le n nr d (fwB (fwV n nr d).1 (nr (n - 2 - d)) (n - 2 - d) d); omega
    · have := fw_le n nr d k; omega
theorem fw_next (n : Nat) (nr : Nat → Nat → Bool) : ∀ d, d + 1 ≤ n → ∀ k, n - 1 - d ≤ k → k + 1 < n → k < (fwV n nr d).2 k ∧ (fwV n nr d).2 k < n
  | 0, _, k, h, h2 => by omega
  | d + 1, hd, k, h, h2 => by
    show _ < (if k = n - 2 - d then _ else _) ∧ (if k = n - 2 - d then _ else _) < n
    split
    · rename_i e
      have := fwB_in (fwV n nr d).1 (nr (n - 2 - d)) (n - 2 - d) d
      omega
    · exact fw_next n nr d (by omega) k (by omega) h2
/-- The next one of each sample; of the last one, the length. -/
def fwN (n : Nat) (nr : Nat → Nat → Bool) (k : Nat) : Nat := if k + 1 < n then (fwV n nr (n - 1)).2 k else n
theorem fwN_in (n : Nat) (nr : Nat → Nat → Bool) (k : Nat) (hk : k < n) : k < fwN n nr k ∧ fwN n nr k ≤ n := by
  unfold fwN
  split
  · rename_i h
    have := fw_next n nr (n - 1) (by omega) k (by omega) h
    omega
  · omega
/-- The row of steps, and the program's row of next ones, after d rounds. -/
def fwF (n : Nat) (nr : Nat → Nat → Bool) (d : Nat) (k : Nat) : Int := ((fwV n nr d).1 k : Nat)
def fwG (n : Nat) (nr : Nat → Nat → Bool) (d : Nat) (k : Nat) : Int := if k = n - 1 then -1 else ((fwV n nr d).2 k : Nat)
/-- The same inside round d, when m of the later ones were looked at. -/
def fwFm (n : Nat) (nr : Nat → Nat → Bool) (d m : Nat) : Nat → Int := updI (fwF n nr d) (n - 2 - d) (((fwV n nr d).1 (fwB (fwV n nr d).1 (nr (n - 2 - d)) (n - 2 - d) m) : Nat) + 1)
def fwGm (n : Nat) (nr : Nat → Nat → Bool) (d m : Nat) : Nat → Int := updI (fwG n nr d) (n - 2 - d) ((fwB (fwV n nr d).1 (nr (n - 2 - d)) (n - 2 - d) m : Nat))
theorem fwFm_end {n : Nat} {nr : Nat → Nat → Bool} {d : Nat} : fwFm n nr d d = fwF n nr (d + 1) := by
  funext k
  show updI _ _ _ k = (((if k = n - 2 - d then (fwV n nr d).1 (fwB (fwV n nr d).1 (nr (n - 2 - d)) (n - 2 - d) d) + 1 else (fwV n nr d).1 k : Nat)) : Int)
  unfold updI fwF; split <;> simp
theorem fwGm_end {n : Nat} {nr : Nat → Nat → Bool} {d : Nat} (h : d + 1 < n) : fwGm n nr d d = fwG n nr (d + 1) := by
  funext k
  show updI _ _ _ k = if k = n - 1 then -1 else (((if k = n - 2 - d then fwB (fwV n nr d).1 (nr (n - 2 - d)) (n - 2 - d) d else (fwV n nr d).2 k : Nat)) : Int)
  unfold updI fwG
  split
  · rw [if_neg (by omega)]
  · rfl
theorem fw_stay {n : Nat} {nr : Nat → Nat → Bool} {d m i : Nat} (hi : i = n - 2 - d) (h : ¬ ((fwV n nr d).1 (i + 2 + m) < (fwV n nr d).1 (fwB (fwV n nr d).1 (nr i) i m) ∧ nr i (i + 2 + m) = true)) : fwFm n nr d (m + 1) = fwFm n nr d m ∧ fwGm n nr d (m + 1) = fwGm n nr d m := by
  subst hi
  have e : fwB (fwV n nr d).1 (nr (n - 2 - d)) (n - 2 - d) (m + 1) = fwB (fwV n nr d).1 (nr (n - 2 - d)) (n - 2 - d) m := by rw [fwB, if_neg h]
  unfold fwFm fwGm
  rw [e]
  exact ⟨rfl, rfl⟩
theorem fw_go {n : Nat} {nr : Nat → Nat → Bool} {d m i j : Nat} (hi : i = n - 2 - d) (hj : j = i + 2 + m) (h : (fwV n nr d).1 j < (fwV n nr d).1 (fwB (fwV n nr d).1 (nr i) i m)) (h2 : nr i j = true) : fwFm n nr d (m + 1) = updI (fwFm n nr d m) i (((fwV n nr d).1 j : Nat) + 1) ∧ fwGm n nr d (m + 1) = updI (fwGm n nr d m) i (j : Nat) := by
  subst hi hj
  have e : fwB (fwV n nr d).1 (nr (n - 2 - d)) (n - 2 - d) (m + 1) = n - 2 - d + 2 + m := by rw [fwB, if_pos ⟨h, h2⟩]
  unfold fwFm fwGm
  rw [e, updI_twice, updI_twice]
  exact ⟨rfl, rfl⟩
theorem fwFm_at {n : Nat} {nr : Nat → Nat → Bool} {d m i : Nat} (hi : i = n - 2 - d) : fwFm n nr d m i = ((fwV n nr d).1 (fwB (fwV n nr d).1 (nr i) i m) : Nat) + 1 := by
  subst hi; unfold fwFm updI; rw [if_pos rfl]
theorem fwFm_far {n : Nat} {nr : Nat → Nat → Bool} {d m k : Nat} (h : k ≠ n - 2 - d) : fwFm n nr d m k = ((fwV n nr d).1 k : Nat) := by
  unfold fwFm updI; rw [if_neg h]; rfl
theorem fwG_enc {n : Nat} {nr : Nat → Nat → Bool} (k : Nat) (hk : k < n) : fwG n nr (n - 1) k = encM n (fwN n nr k) := by
  unfold fwG fwN encM
  by_cases h : k + 1 < n
  · have := fw_next n nr (n - 1) (by omega) k (by omega) h
    rw [if_neg (by omega), if_pos h, if_neg (by omega)]
  · rw [if_pos (by omega), if_neg h, if_pos rfl]
/-- Are all samples between two near? -/
noncomputable def nrS (ss : List Smp) (most : Int) (i j : Nat) : Bool := @decide (NearP ss i j (most * most)) (Classical.propDecidable _)
theorem nrS_iff {ss : List Smp} {most : Int} {i j : Nat} : nrS ss most i j = true ↔ NearP ss i j (most * most) := by unfold nrS; exact @decide_eq_true_iff _ (Classical.propDecidable _)
end Go.Proofs.Ytgkhhfojioepgaa
