/- The samples of an activity that is right: their times rise. -/
import Derived.Test.YtgkhhfojioepgaaBaseC
import Derived.Test.YtgkhhfojioepgaaBaseB
namespace Go.Proofs.Ytgkhhfojioepgaa
open Go.RowKit
set_option linter.unusedSimpArgs false
set_option linter.unusedVariables false

theorem smps_rise {st : Int} : ∀ (l : List Smp) (b : Option Int), smpsE st b l = 0 → (∀ i (h : i + 1 < l.length), (l[i]'(by omega)).t < l[i + 1].t) ∧ (∀ (h : 0 < l.length), ¬ early b l[0].t)
  | [], _, _ => ⟨fun i h => absurd h (by simp), fun h => absurd h (by simp)⟩
  | y :: r, b, h => by
    unfold smpsE at h
    split at h
    · omega
    · rename_i he
      split at h
      · obtain ⟨h1, h2⟩ := smps_rise r _ h
        refine ⟨fun i hi => ?_, fun _ => he⟩
        cases i with
        | zero =>
          have h3 : 0 < r.length := by simp only [List.length_cons] at hi; omega
          have := h2 h3
          unfold early at this
          simp only [List.getElem_cons_zero, List.getElem_cons_succ]
          omega
        | succ i =>
          have h3 : i + 1 < r.length := by simp only [List.length_cons] at hi; omega
          have := h1 i h3
          simpa using this
      · omega

/-- What is known of the samples of an activity that is right. -/
structure SOk (ss : List Smp) : Prop where
  len : (ss.length : Int) ≤ 20000
  t0 : 0 < ss.length → (smpD ss 0).t = 0
  inn : ∀ i, i < ss.length → 0 ≤ (smpD ss i).t ∧ (smpD ss i).t ≤ 1000000 ∧ inPlane (smpD ss i) ∧ (-100000 ≤ (smpD ss i).z ∧ (smpD ss i).z ≤ 100000) ∧ (-1 ≤ (smpD ss i).p ∧ (smpD ss i).p ≤ 300) ∧ (-1 ≤ (smpD ss i).q ∧ (smpD ss i).q ≤ 3000) ∧ (-1 ≤ (smpD ss i).s ∧ (smpD ss i).s ≤ 300)
  up : ∀ i, i + 1 < ss.length → (smpD ss i).t < (smpD ss (i + 1)).t
theorem sok_of {a : Act} (h : ActOk a) : SOk a.ss := by
  obtain ⟨hr, h0⟩ := smps_rise a.ss none h.smps
  have hin := smps_ok _ _ h.smps
  have t0 : 0 < a.ss.length → (smpD a.ss 0).t = 0 := fun hl => by
    have := h0 hl
    unfold early at this
    rw [smpD_at hl]; omega
  have up : ∀ i, i + 1 < a.ss.length → (smpD a.ss i).t < (smpD a.ss (i + 1)).t := fun i hi => by
    have := hr i hi
    rw [smpD_at hi, smpD_at (by omega : i < a.ss.length)]; exact this
  have pos : ∀ i, i < a.ss.length → 0 ≤ (smpD a.ss i).t := fun i => by
    induction i with
    | zero => intro hi; rw [t0 hi]; omega
    | succ i ih => intro hi; have := ih (by omega); have := up i hi; omega
  refine ⟨h.sl, t0, fun i hi => ?_, up⟩
  have := hin (smpD a.ss i) (by rw [smpD_at hi]; exact List.getElem_mem hi)
  unfold smpIn at this
  have hp := pos i hi
  unfold inPlane
  omega
end Go.Proofs.Ytgkhhfojioepgaa
