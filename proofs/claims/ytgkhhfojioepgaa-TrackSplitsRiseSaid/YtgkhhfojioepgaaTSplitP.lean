/- Splits, purely: how many there are up to a sample, and which step has each of them. -/
import Derived.Test.YtgkhhfojioepgaaBaseC
import Derived.Test.YtgkhhfojioepgaaQRound
namespace Go.Proofs.Ytgkhhfojioepgaa
open Go.RowKit
set_option linter.unusedSimpArgs false
set_option linter.unusedVariables false

theorem wayN_up {ss : List Smp} (hp : ∀ x ∈ ss, inPlane x) (k : Nat) : wayN ss k ≤ wayN ss (k + 1) := by
  have := stepW_bd (smpD_plane hp k) (smpD_plane hp (k + 1))
  show wayN ss k ≤ wayN ss k + stepW (smpD ss k) (smpD ss (k + 1)); omega
/-- How many splits there are up to a sample. -/
noncomputable def cntN (ss : List Smp) (way : Int) (k : Nat) : Nat := (wayN ss k / way).toNat
theorem cnt_iff {ss : List Smp} (hp : ∀ x ∈ ss, inPlane x) {way : Int} (hw : 1 ≤ way) (k j : Nat) : j < cntN ss way k ↔ ((j : Int) + 1) * way ≤ wayN ss k := by
  have h0 := (wayN_bd hp k).1
  have h1 : 0 ≤ wayN ss k / way := Int.ediv_nonneg h0 (by omega)
  unfold cntN
  rw [← Int.le_ediv_iff_mul_le (by omega : 0 < way)]
  omega
theorem cnt_up {ss : List Smp} (hp : ∀ x ∈ ss, inPlane x) {way : Int} (hw : 1 ≤ way) (k : Nat) : cntN ss way k ≤ cntN ss way (k + 1) := by
  rcases Nat.lt_or_ge (cntN ss way (k + 1)) (cntN ss way k) with h | h
  · have q := (cnt_iff hp hw k _).1 h
    have := (cnt_iff hp hw (k + 1) _).2 (Int.le_trans q (wayN_up hp k))
    omega
  · exact h
theorem cnt_mono {ss : List Smp} (hp : ∀ x ∈ ss, inPlane x) {way : Int} (hw : 1 ≤ way) {a b : Nat} (h : a ≤ b) : cntN ss way a ≤ cntN ss way b := by
  induction h with
  | refl => exact Nat.le_refl _
  | step _ ih => exact Nat.le_trans ih (cnt_up hp hw _)
theorem cnt_zero (ss : List Smp) (way : Int) : cntN ss way 0 = 0 := by unfold cntN wayN; simp

/-- When a way was gone within a step: thousandths of a second. -/
noncomputable def atD (ss : List Smp) (i : Nat) (d : Int) : Int := 1000 * (smpD ss i).t + (scaleV (d - wayN ss i) (1000 * ((smpD ss (i + 1)).t - (smpD ss i).t)) (wayN ss (i + 1) - wayN ss i) 2).1
/-- The first step from one on at whose end there are more than so many splits. -/
def stepOf (c : Nat → Nat) (j : Nat) : Nat → Nat → Nat
  | 0, i => i
  | f + 1, i => if j < c (i + 1) then i else stepOf c j f (i + 1)
theorem stepOf_is (c : Nat → Nat) (j k : Nat) (hk : j < c (k + 1)) : ∀ (f i : Nat), i ≤ k → k < i + f → (∀ i', i ≤ i' → i' < k → ¬ j < c (i' + 1)) → stepOf c j f i = k
  | 0, i, h1, h2, _ => by omega
  | f + 1, i, h1, h2, h3 => by
    rw [stepOf]
    by_cases e : i = k
    · subst e; rw [if_pos hk]
    · rw [if_neg (h3 i (Nat.le_refl _) (by omega))]
      exact stepOf_is c j k hk f (i + 1) (by omega) (by omega) (fun i' a b => h3 i' (by omega) b)
/-- A split. -/
noncomputable def spl (ss : List Smp) (way : Int) (j : Nat) : Int × Int := (((j : Int) + 1) * way, atD ss (stepOf (cntN ss way) j ss.length 0) (((j : Int) + 1) * way))
theorem spl_at {ss : List Smp} (hp : ∀ x ∈ ss, inPlane x) {way : Int} (hw : 1 ≤ way) {k j : Nat} (hk : k + 1 < ss.length) (h1 : cntN ss way k ≤ j) (h2 : j < cntN ss way (k + 1)) : spl ss way j = (((j : Int) + 1) * way, atD ss k (((j : Int) + 1) * way)) := by
  unfold spl
  rw [stepOf_is (cntN ss way) j k h2 ss.length 0 (Nat.zero_le _) (by omega) (fun i' _ h => by
    have := cnt_mono hp hw (a := i' + 1) (b := k) (by omega)
    omega)]
def splCs (x : Int × Int) : List Value := [.int .i64 x.1, .int .i64 x.2]
noncomputable def splVs (ss : List Smp) (way : Int) (n : Nat) : List Value := (List.range n).flatMap fun j => splCs (spl ss way j)
theorem splVs_succ (ss : List Smp) (way : Int) (n : Nat) : splVs ss way (n + 1) = splVs ss way n ++ splCs (spl ss way n) := by simp [splVs, List.range_succ]

/-- What Splits returns: how many, and the error. -/
noncomputable def splitsE (a : Act) (way : Int) : Nat × Int :=
  if chkE a = 0 then (if 1 ≤ way ∧ way ≤ 1000000000 then (if cntN a.ss way (a.ss.length - 1) ≤ 10000 then (cntN a.ss way (a.ss.length - 1), 0) else (0, 3)) else (0, 9)) else (0, chkE a)

/-- A split lies within its step. -/
theorem scale_up {a num den : Int} (h0 : 0 ≤ a) (h1 : a ≤ den) (hd : 1 ≤ den) (hn0 : 0 ≤ num) (hn : num ≤ 1000000000) : 0 ≤ (scaleV a num den 2).1 ∧ (scaleV a num den 2).1 ≤ num ∧ (scaleV a num den 2).2 = 0 ∧ (scaleV a num den 2).1 = -(-(a * num) / den) := by
  have hm : a * num ≤ den * num := Int.mul_le_mul_of_nonneg_right h1 hn0
  have hp : 0 ≤ a * num := Int.mul_nonneg h0 hn0
  have q1 : -(den * num) / den ≤ -(a * num) / den := Int.ediv_le_ediv (by omega) (by omega)
  have q2 : -(den * num) / den = -num := by rw [← Int.mul_neg, Int.mul_ediv_cancel_left _ (by omega)]
  have q3 : -(a * num) / den ≤ 0 := by
    have := Int.ediv_le_ediv (c := den) (by omega) (show -(a * num) ≤ 0 by omega)
    simpa using this
  have e : rndV 2 (a * num) den = -(-(a * num) / den) := by
    unfold rndV upB
    by_cases hz : (a * num) % den = 0
    · have := (neg_div_of (a * num) den (by omega) hz).1
      rw [this, hz]; simp
    · have := (neg_div_of' (a * num) den (by omega) hz).1
      have hpos := Int.emod_nonneg (a * num) (show den ≠ 0 by omega)
      rw [this]
      simp only [show ¬ (2 : Int) = 1 by decide, if_false, if_true, decide_eq_true_eq]
      rw [if_pos (by omega)]; omega
  have e2 : scaleV a num den 2 = (-(-(a * num) / den), 0) := by
    unfold scaleV big
    rw [if_neg (by omega), if_neg (by omega), e, if_neg (by omega)]
  rw [e2]
  exact ⟨by simp only; omega, by simp only; omega, rfl, rfl⟩
end Go.Proofs.Ytgkhhfojioepgaa
