/- How far a sample is from the way between two others, purely. -/
import Derived.Test.YtgkhhfojioepgaaBaseE
namespace Go.Proofs.Ytgkhhfojioepgaa
open Go.RowKit
set_option linter.unusedSimpArgs false
set_option linter.unusedVariables false

theorem rnd_in {n d a : Int} (hd : 1 ≤ d) (h0 : 0 ≤ n) (h1 : n ≤ a * d) : 0 ≤ rndV 4 n d ∧ rndV 4 n d ≤ a := by
  have q0 : 0 ≤ n / d := Int.ediv_nonneg h0 (by omega)
  have q1 : n / d ≤ a := by
    have := Int.ediv_le_ediv (c := d) (by omega) h1
    rwa [Int.mul_ediv_cancel _ (by omega)] at this
  have e := Int.mul_ediv_add_emod n d
  have hm := Int.emod_nonneg n (show d ≠ 0 by omega)
  unfold rndV
  split
  · rename_i hu
    refine ⟨by omega, ?_⟩
    rcases Int.lt_or_le (n / d) a with q | q
    · omega
    · exfalso
      have hqa : n / d = a := by omega
      rw [hqa, Int.mul_comm] at e
      have hz : n % d = 0 := by omega
      unfold upB at hu
      rw [hz] at hu
      simp at hu
      omega
  · omega
theorem rnd_in_neg {n d a : Int} (hd : 1 ≤ d) (h0 : n ≤ 0) (h1 : -(a * d) ≤ n) : -a ≤ rndV 4 n d ∧ rndV 4 n d ≤ 0 := by
  have q1 : -a ≤ n / d := by
    rw [Int.le_ediv_iff_mul_le (by omega), Int.neg_mul]; exact h1
  have q0 : n / d ≤ 0 := by
    have := Int.ediv_le_ediv (c := d) (by omega) h0
    simpa using this
  have e := Int.mul_ediv_add_emod n d
  have hm := Int.emod_nonneg n (show d ≠ 0 by omega)
  unfold rndV
  split
  · rename_i hu
    refine ⟨by omega, ?_⟩
    rcases Int.lt_or_le (n / d) 0 with q | q
    · omega
    · exfalso
      have hqa : n / d = 0 := by omega
      rw [hqa, Int.mul_zero] at e
      have hz : n % d = 0 := by omega
      unfold upB at hu
      rw [hz] at hu
      simp at hu
      omega
  · omega
theorem btw_in {p q part whole : Int} (p0 : -100000000 ≤ p) (p1 : p ≤ 100000000) (q0 : -100000000 ≤ q) (q1 : q ≤ 100000000) (h0 : 0 ≤ part) (h1 : part ≤ whole) (hd : 1 ≤ whole) (hd1 : whole ≤ 1000000) : -100000000 ≤ btwV p q part whole ∧ btwV p q part whole ≤ 100000000 := by
  have hs := scale_near (a := q - p) (num := part) (den := whole) (by omega) (by omega) h0 h1 hd hd1
  have e : (scaleV (q - p) part whole 4).1 = rndV 4 ((q - p) * part) whole := by
    have h2 := hs.2.2
    unfold scaleV at h2 ⊢
    rw [if_neg (by omega), if_neg (by omega)] at h2 ⊢
    split at h2
    · simp at h2
    · rename_i hn; rw [if_neg hn]
  unfold btwV
  rw [e]
  rcases Int.lt_or_le (q - p) 0 with c | c
  · have a1 : (q - p) * part ≤ 0 := Int.mul_nonpos_of_nonpos_of_nonneg (by omega) h0
    have a2 : -((p - q) * whole) ≤ (q - p) * part := by
      have r1 : (q - p) * whole ≤ (q - p) * part := Int.mul_le_mul_of_nonpos_left (by omega) h1
      have r2 : -((p - q) * whole) = (q - p) * whole := by rw [← Int.neg_mul]; congr 1; omega
      rw [r2]; exact r1
    have := rnd_in_neg hd a1 a2
    omega
  · have a1 : 0 ≤ (q - p) * part := Int.mul_nonneg c h0
    have a2 : (q - p) * part ≤ (q - p) * whole := Int.mul_le_mul_of_nonneg_left h1 c
    have := rnd_in hd a1 a2
    omega
theorem on_plane {p q : Smp} {s : Int} (hp : SmpIn p) (hq : SmpIn q) (h0 : p.t ≤ s) (h1 : s ≤ q.t) (hpq : p.t < q.t) : inPlane (onV p q s) := by
  obtain ⟨⟨t0, t1⟩, hp1, _⟩ := hp
  obtain ⟨⟨t2, t3⟩, hq1, _⟩ := hq
  unfold inPlane at hp1 hq1
  have a := btw_in (p := p.x) (q := q.x) (part := s - p.t) (whole := q.t - p.t) (by omega) (by omega) (by omega) (by omega) (by omega) (by omega) (by omega) (by omega)
  have b := btw_in (p := p.y) (q := q.y) (part := s - p.t) (whole := q.t - p.t) (by omega) (by omega) (by omega) (by omega) (by omega) (by omega) (by omega) (by omega)
  unfold inPlane onV
  simp only
  omega
/-- The square of how far x is from where somebody would have been who went straight from p to q. -/
noncomputable def missV (p q x : Smp) : Int := sqP (onV p q x.t) x
theorem miss_bd {p q x : Smp} (hp : SmpIn p) (hq : SmpIn q) (hx : SmpIn x) (h0 : p.t ≤ x.t) (h1 : x.t ≤ q.t) (hpq : p.t < q.t) : 0 ≤ missV p q x ∧ missV p q x ≤ 80000000000000000 := by
  have := sqP_bd (on_plane hp hq h0 h1 hpq) hx.2.1
  unfold missV; omega
theorem times_lt {ss : List Smp} (h : SOk ss) {i j : Nat} (hij : i < j) (hj : j < ss.length) : (smpD ss i).t < (smpD ss j).t := by
  have a := h.up i (by omega)
  have b := times_le h (i := i + 1) (j := j) (by omega) hj
  omega
theorem sq_most {a : Int} (h0 : 0 ≤ a) (h1 : a ≤ 100000000) : 0 ≤ a * a ∧ a * a ≤ 10000000000000000 := by
  refine ⟨Int.mul_nonneg h0 h0, ?_⟩
  have := Int.mul_le_mul h1 h1 h0 (show (0 : Int) ≤ 100000000 by omega)
  omega
/-- All samples between two are near. -/
def NearP (ss : List Smp) (i j : Nat) (m : Int) : Prop := ∀ k, i < k → k < j → missV (smpD ss i) (smpD ss j) (smpD ss k) ≤ m
end Go.Proofs.Ytgkhhfojioepgaa
