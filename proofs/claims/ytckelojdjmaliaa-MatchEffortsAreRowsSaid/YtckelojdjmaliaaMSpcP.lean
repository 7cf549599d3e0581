/- Places along a way, purely: which sample comes first behind so far, and where somebody was. -/
import Derived.Test.YtckelojdjmaliaaBaseA
import Derived.Test.YtckelojdjmaliaaMSide
import Derived.Test.YtckelojdjmaliaaTWaysM
import Derived.Test.YtckelojdjmaliaaQRound
namespace Go.Proofs.Ytckelojdjmaliaa
open Go.RowKit
set_option linter.unusedSimpArgs false
set_option linter.unusedVariables false

theorem mono_count {F : Nat → Int} (hF : ∀ j, F j ≤ F (j + 1)) (d : Int) : ∀ n, ∃ i, i ≤ n ∧ (∀ j, j < n → (F j < d ↔ j < i)) ∧ ((List.range n).map F).countP (fun x => decide (x < d)) = i
  | 0 => ⟨0, Nat.le_refl _, fun j hj => absurd hj (Nat.not_lt_zero _), rfl⟩
  | n + 1 => by
    have hm : ∀ k j, F j ≤ F (j + k) := fun k => by
      induction k with
      | zero => intro j; exact Int.le_refl _
      | succ k ih => intro j; exact Int.le_trans (ih j) (hF (j + k))
    obtain ⟨i, hi, hj, hc⟩ := mono_count hF d n
    rw [List.range_succ, List.map_append, List.countP_append, hc]
    by_cases h : F n < d
    · have hin : i = n := by
        rcases Nat.lt_or_ge i n with h2 | h2
        · have h3 := hm (n - i) i
          rw [show i + (n - i) = n by omega] at h3
          have := (hj i h2).1 (by omega)
          omega
        · omega
      refine ⟨n + 1, Nat.le_refl _, fun j hj2 => ?_, ?_⟩
      · have h3 := hm (n - j) j
        rw [show j + (n - j) = n by omega] at h3
        constructor
        · intro _; exact hj2
        · intro _; omega
      · simp [h, hin]
    · refine ⟨i, by omega, fun j hj2 => ?_, ?_⟩
      · rcases Nat.lt_or_ge j n with h2 | h2
        · exact hj j h2
        · have : j = n := by omega
          subst this
          constructor
          · intro h3; omega
          · intro h3; omega
      · simp [h]

noncomputable def ixW (ss : List Smp) (d : Int) : Nat := ((List.range ss.length).map (wayN ss)).countP (fun x => decide (x < d))
theorem way_up {ss : List Smp} (hp : ∀ x ∈ ss, inPlane x) (j : Nat) : wayN ss j ≤ wayN ss (j + 1) := by
  have := stepW_bd (smpD_plane hp j) (smpD_plane hp (j + 1))
  simp only [wayN]; omega
theorem way_le {ss : List Smp} (hp : ∀ x ∈ ss, inPlane x) : ∀ k j, wayN ss j ≤ wayN ss (j + k)
  | 0, j => Int.le_refl _
  | k + 1, j => Int.le_trans (way_le hp k j) (way_up hp (j + k))
theorem ixW_is {ss : List Smp} (hp : ∀ x ∈ ss, inPlane x) (d : Int) : ixW ss d ≤ ss.length ∧ ∀ j, j < ss.length → (wayN ss j < d ↔ j < ixW ss d) := by
  obtain ⟨i, hi, hj, hc⟩ := mono_count (way_up hp) d ss.length
  have e : ixW ss d = i := hc
  rw [e]; exact ⟨hi, hj⟩
theorem ixW_lt {ss : List Smp} (hp : ∀ x ∈ ss, inPlane x) {d : Int} (hl : 0 < ss.length) (hd : d ≤ wayN ss (ss.length - 1)) : ixW ss d < ss.length ∧ d ≤ wayN ss (ixW ss d) := by
  obtain ⟨h1, h2⟩ := ixW_is hp d
  have h3 : ixW ss d < ss.length := by
    rcases Nat.lt_or_ge (ixW ss d) ss.length with h | h
    · exact h
    · have := (h2 (ss.length - 1) (by omega)).2 (by omega); omega
  refine ⟨h3, ?_⟩
  have := h2 _ h3
  omega
theorem ixW_has {ss : List Smp} (hp : ∀ x ∈ ss, inPlane x) {d : Int} (hl : 0 < ss.length) (hd : d ≤ wayN ss (ss.length - 1)) : ((List.range ss.length).map (wayN ss)).contains d = decide (wayN ss (ixW ss d) = d) := by
  obtain ⟨h1, h2⟩ := ixW_lt hp hl hd
  obtain ⟨_, h3⟩ := ixW_is hp d
  by_cases h : wayN ss (ixW ss d) = d
  · rw [decide_eq_true h, List.contains_iff_mem]
    exact List.mem_map.2 ⟨_, List.mem_range.2 h1, h⟩
  · rw [decide_eq_false h, Bool.eq_false_iff]
    intro hc
    rw [List.contains_iff_mem] at hc
    obtain ⟨j, hj, e⟩ := List.mem_map.1 hc
    have hj := List.mem_range.1 hj
    have h4 : ixW ss d ≤ j := by
      rcases Nat.lt_or_ge j (ixW ss d) with q | q
      · have := (h3 j hj).2 q; omega
      · exact q
    have h5 := way_le hp (j - ixW ss d) (ixW ss d)
    rw [show ixW ss d + (j - ixW ss d) = j by omega] at h5
    omega
theorem ixW_pos {ss : List Smp} (hp : ∀ x ∈ ss, inPlane x) {d : Int} (hl : 0 < ss.length) (h0 : 0 ≤ d) (hd : d ≤ wayN ss (ss.length - 1)) (hne : wayN ss (ixW ss d) ≠ d) : 0 < ixW ss d ∧ wayN ss (ixW ss d - 1) < d := by
  have hi : 0 < ixW ss d := by
    rcases Nat.eq_zero_or_pos (ixW ss d) with h | h
    · have h2 := (ixW_lt hp hl hd).2
      rw [h] at h2 hne
      have : wayN ss 0 = 0 := rfl
      omega
    · exact h
  refine ⟨hi, ?_⟩
  have h1 := (ixW_lt hp hl hd).1
  exact ((ixW_is hp d).2 _ (by omega)).2 (by omega)
def mbtw (p q part whole : Int) : Int := p + (scaleV (q - p) part whole 4).1
theorem scale_nearM {a num den : Int} (a0 : -200000000 ≤ a) (a1 : a ≤ 200000000) (h0 : 0 ≤ num) (h1 : num ≤ den) (hd : 1 ≤ den) : -200000001 ≤ (scaleV a num den 4).1 ∧ (scaleV a num den 4).1 ≤ 200000001 := by
  have b0 : -200000000 * den ≤ a * num := by
    rcases Int.lt_or_le a 0 with h | h
    · have q1 : a * den ≤ a * num := Int.mul_le_mul_of_nonpos_left (by omega) h1
      have q2 : -200000000 * den ≤ a * den := Int.mul_le_mul_of_nonneg_right a0 (by omega)
      omega
    · have := Int.mul_nonneg h h0; omega
  have b1 : a * num ≤ 200000000 * den := by
    rcases Int.lt_or_le a 0 with h | h
    · have := Int.mul_nonneg (show 0 ≤ -a by omega) h0
      rw [Int.neg_mul] at this; omega
    · have q1 : a * num ≤ a * den := Int.mul_le_mul_of_nonneg_left h1 h
      have q2 : a * den ≤ 200000000 * den := Int.mul_le_mul_of_nonneg_right a1 (by omega)
      omega
  have d0 : -200000000 ≤ a * num / den := by rw [Int.le_ediv_iff_mul_le (by omega)]; exact b0
  have d1 : a * num / den ≤ 200000000 := by
    have := Int.ediv_le_ediv (c := den) (by omega) b1
    rwa [Int.mul_ediv_cancel _ (by omega)] at this
  have e : rndV 4 (a * num) den = a * num / den ∨ rndV 4 (a * num) den = a * num / den + 1 := by
    unfold rndV; split <;> simp
  have e2 : scaleV a num den 4 = (rndV 4 (a * num) den, 0) := by
    unfold scaleV big
    rw [if_neg (by omega), if_neg (by omega), if_neg (by omega)]
  rw [e2]
  exact ⟨by simp only; omega, by simp only; omega⟩
/-- Where somebody was when so far was gone. -/
noncomputable def plV (ss : List Smp) (d : Int) : Pt :=
  if wayN ss (ixW ss d) = d then smpPt (smpD ss (ixW ss d))
  else ⟨mbtw (smpD ss (ixW ss d - 1)).x (smpD ss (ixW ss d)).x (d - wayN ss (ixW ss d - 1)) (wayN ss (ixW ss d) - wayN ss (ixW ss d - 1)), mbtw (smpD ss (ixW ss d - 1)).y (smpD ss (ixW ss d)).y (d - wayN ss (ixW ss d - 1)) (wayN ss (ixW ss d) - wayN ss (ixW ss d - 1))⟩
/-- How far the place with the number k is. -/
noncomputable def spD (ss : List Smp) (n k : Nat) : Int := wayN ss (ss.length - 1) * k / ((n : Int) - 1)
noncomputable def spL (ss : List Smp) (n : Nat) (k : Nat) : List Pt := (List.range k).map fun i => plV ss (spD ss n i)
theorem spL_len (ss : List Smp) (n k : Nat) : (spL ss n k).length = k := by unfold spL; simp
theorem spL_succ (ss : List Smp) (n k : Nat) : spL ss n (k + 1) = spL ss n k ++ [plV ss (spD ss n k)] := by unfold spL; rw [List.range_succ, List.map_append]; rfl
theorem spD_bd {ss : List Smp} (hp : ∀ x ∈ ss, inPlane x) {n k : Nat} (hn : 2 ≤ n) (hk : k < n) : 0 ≤ spD ss n k ∧ spD ss n k ≤ wayN ss (ss.length - 1) := by
  have h0 := (wayN_bd hp (ss.length - 1)).1
  unfold spD
  refine ⟨Int.ediv_nonneg (Int.mul_nonneg h0 (by omega)) (by omega), ?_⟩
  have h1 : wayN ss (ss.length - 1) * k ≤ wayN ss (ss.length - 1) * ((n : Int) - 1) := Int.mul_le_mul_of_nonneg_left (by omega) h0
  have h2 := Int.ediv_le_ediv (c := (n : Int) - 1) (by omega) h1
  rwa [Int.mul_ediv_cancel _ (by omega)] at h2
theorem spD_up {ss : List Smp} (hp : ∀ x ∈ ss, inPlane x) {n k : Nat} (hn : 2 ≤ n) : spD ss n k ≤ spD ss n (k + 1) := by
  have h0 := (wayN_bd hp (ss.length - 1)).1
  unfold spD
  refine Int.ediv_le_ediv (by omega) (Int.mul_le_mul_of_nonneg_left (by omega) h0)
theorem ixW_up {ss : List Smp} (hp : ∀ x ∈ ss, inPlane x) {d e : Int} (h : d ≤ e) : ixW ss d ≤ ixW ss e := by
  obtain ⟨h1, h2⟩ := ixW_is hp d
  obtain ⟨h3, h4⟩ := ixW_is hp e
  rcases Nat.lt_or_ge (ixW ss e) (ixW ss d) with q | q
  · have a := (h2 (ixW ss e) (by omega)).2 q
    have b := (h4 (ixW ss e) (by omega)).1 (by omega)
    omega
  · exact q
/-- What Spaced returns. -/
def spcE (a : Act) (n : Int) : Int := if chkE a = 0 then if 2 ≤ n ∧ n ≤ 300 then if a.ss.length = 0 then 13 else 0 else 9 else chkE a
noncomputable def spcL (a : Act) (n : Int) : List Pt := if spcE a n = 0 then spL a.ss n.toNat n.toNat else []
end Go.Proofs.Ytckelojdjmaliaa
