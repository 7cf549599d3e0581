/- Splits rise, purely: each lies within its step, and a later one is not earlier. -/
import Derived.Test.YtgkhhfojioepgaaTSplitP
namespace Go.Proofs.Ytgkhhfojioepgaa
open Go.RowKit
set_option linter.unusedSimpArgs false
set_option linter.unusedVariables false

theorem spl_step {ss : List Smp} {way : Int} : ∀ (m j : Nat), j < cntN ss way m → ∃ k, k < m ∧ cntN ss way k ≤ j ∧ j < cntN ss way (k + 1)
  | 0, j, h => by rw [cnt_zero] at h; omega
  | m + 1, j, h => by
    rcases Nat.lt_or_ge j (cntN ss way m) with q | q
    · obtain ⟨k, a, b⟩ := spl_step m j q
      exact ⟨k, by omega, b⟩
    · exact ⟨m, by omega, q, h⟩
section
variable {ss : List Smp} (hp : ∀ x ∈ ss, inPlane x) {way : Int} (hw : 1 ≤ way)
include hp hw
theorem spl_in {k j : Nat} (h1 : cntN ss way k ≤ j) (h2 : j < cntN ss way (k + 1)) : wayN ss k < ((j : Int) + 1) * way ∧ ((j : Int) + 1) * way ≤ wayN ss (k + 1) := by
  refine ⟨?_, (cnt_iff hp hw (k + 1) j).1 h2⟩
  rcases Int.lt_or_le (wayN ss k) (((j : Int) + 1) * way) with q | q
  · exact q
  · have := (cnt_iff hp hw k j).2 q; omega
/-- Where in its step a split lies. -/
theorem spl_scale {k j : Nat} (h1 : cntN ss way k ≤ j) (h2 : j < cntN ss way (k + 1)) (ht0 : (smpD ss k).t ≤ (smpD ss (k + 1)).t) (ht1 : (smpD ss (k + 1)).t - (smpD ss k).t ≤ 1000000) :
    0 ≤ (scaleV (((j : Int) + 1) * way - wayN ss k) (1000 * ((smpD ss (k + 1)).t - (smpD ss k).t)) (wayN ss (k + 1) - wayN ss k) 2).1 ∧ (scaleV (((j : Int) + 1) * way - wayN ss k) (1000 * ((smpD ss (k + 1)).t - (smpD ss k).t)) (wayN ss (k + 1) - wayN ss k) 2).1 ≤ 1000 * ((smpD ss (k + 1)).t - (smpD ss k).t) ∧ (scaleV (((j : Int) + 1) * way - wayN ss k) (1000 * ((smpD ss (k + 1)).t - (smpD ss k).t)) (wayN ss (k + 1) - wayN ss k) 2).2 = 0 ∧ (scaleV (((j : Int) + 1) * way - wayN ss k) (1000 * ((smpD ss (k + 1)).t - (smpD ss k).t)) (wayN ss (k + 1) - wayN ss k) 2).1 = -(-((((j : Int) + 1) * way - wayN ss k) * (1000 * ((smpD ss (k + 1)).t - (smpD ss k).t))) / (wayN ss (k + 1) - wayN ss k)) := by
  obtain ⟨a, b⟩ := spl_in hp hw h1 h2
  exact scale_up (by omega) (by omega) (by omega) (by omega) (by omega)
theorem spl_bd {k j : Nat} (hk : k + 1 < ss.length) (h1 : cntN ss way k ≤ j) (h2 : j < cntN ss way (k + 1)) (ht0 : (smpD ss k).t ≤ (smpD ss (k + 1)).t) (ht1 : (smpD ss (k + 1)).t - (smpD ss k).t ≤ 1000000) :
    1000 * (smpD ss k).t ≤ (spl ss way j).2 ∧ (spl ss way j).2 ≤ 1000 * (smpD ss (k + 1)).t := by
  have q := spl_scale hp hw h1 h2 ht0 ht1
  rw [spl_at hp hw hk h1 h2]
  unfold atD
  simp only
  omega
/-- Within a step a later split is not earlier. -/
theorem spl_up {k i j : Nat} (hk : k + 1 < ss.length) (hij : i ≤ j) (h1 : cntN ss way k ≤ i) (h2 : j < cntN ss way (k + 1)) (ht0 : (smpD ss k).t ≤ (smpD ss (k + 1)).t) (ht1 : (smpD ss (k + 1)).t - (smpD ss k).t ≤ 1000000) :
    (spl ss way i).2 ≤ (spl ss way j).2 := by
  have q := (spl_scale hp hw h1 (by omega : i < cntN ss way (k + 1)) ht0 ht1).2.2.2
  have r := (spl_scale hp hw (by omega : cntN ss way k ≤ j) h2 ht0 ht1).2.2.2
  obtain ⟨a, b⟩ := spl_in hp hw h1 (by omega : i < cntN ss way (k + 1))
  rw [spl_at hp hw hk h1 (by omega), spl_at hp hw hk (by omega) h2]
  unfold atD
  simp only
  rw [q, r]
  have hm : ((i : Int) + 1) * way ≤ ((j : Int) + 1) * way := Int.mul_le_mul_of_nonneg_right (by omega) (by omega)
  have hd : 0 < wayN ss (k + 1) - wayN ss k := by omega
  generalize wayN ss (k + 1) - wayN ss k = den at *
  have hn : 0 ≤ 1000 * ((smpD ss (k + 1)).t - (smpD ss k).t) := by omega
  generalize 1000 * ((smpD ss (k + 1)).t - (smpD ss k).t) = num at *
  have h3 : (((i : Int) + 1) * way - wayN ss k) * num ≤ (((j : Int) + 1) * way - wayN ss k) * num := Int.mul_le_mul_of_nonneg_right (by omega) hn
  have h4 := Int.ediv_le_ediv hd (show -((((j : Int) + 1) * way - wayN ss k) * num) ≤ -((((i : Int) + 1) * way - wayN ss k) * num) by omega)
  omega
end
/-- Of the splits of an activity a later one is not earlier, and none is behind the end. -/
theorem spl_rise {ss : List Smp} (hp : ∀ x ∈ ss, inPlane x) {way : Int} (hw : 1 ≤ way) (ht : ∀ i, i + 1 < ss.length → (smpD ss i).t < (smpD ss (i + 1)).t) (hb : ∀ i, i < ss.length → 0 ≤ (smpD ss i).t ∧ (smpD ss i).t ≤ 1000000) {j : Nat} (hj : j < cntN ss way (ss.length - 1)) :
    0 ≤ (spl ss way j).2 ∧ (spl ss way j).2 ≤ 1000 * (smpD ss (ss.length - 1)).t ∧ (∀ i, i + 1 = j → (spl ss way i).2 ≤ (spl ss way j).2) := by
  have hmono : ∀ (b a : Nat), a ≤ b → b < ss.length → (smpD ss a).t ≤ (smpD ss b).t := fun b => by
    induction b with
    | zero => intro a h _; obtain rfl : a = 0 := (by omega); exact Int.le_refl _
    | succ b ih =>
      intro a h hl
      rcases Nat.lt_or_ge a (b + 1) with q | q
      · have := ih a (by omega) (by omega); have := ht b hl; omega
      · obtain rfl : a = b + 1 := by omega
        exact Int.le_refl _
  obtain ⟨k, hk, h1, h2⟩ := spl_step _ j hj
  have hkl : k + 1 < ss.length := by omega
  have t0 := ht k hkl
  have b0 := hb k (by omega); have b1 := hb (k + 1) hkl
  have q := spl_bd hp hw hkl h1 h2 (by omega) (by omega)
  have hm := hmono (ss.length - 1) (k + 1) (by omega) (by omega)
  refine ⟨by omega, by omega, fun i hi => ?_⟩
  obtain ⟨k', hk', g1, g2⟩ := spl_step _ i (show i < cntN ss way (ss.length - 1) by omega)
  rcases Nat.lt_or_ge k' k with r | r
  · have t1 := ht k' (by omega)
    have c0 := hb k' (by omega); have c1 := hb (k' + 1) (by omega)
    have p := spl_bd hp hw (show k' + 1 < ss.length by omega) g1 g2 (by omega) (by omega)
    have := hmono k (k' + 1) (by omega) (by omega)
    omega
  · rcases Nat.lt_or_ge k k' with s | s
    · have := cnt_mono hp hw (a := k + 1) (b := k') (by omega)
      omega
    · obtain rfl : k' = k := by omega
      exact spl_up hp hw hkl (by omega) g1 h2 (by omega) (by omega)
end Go.Proofs.Ytgkhhfojioepgaa
