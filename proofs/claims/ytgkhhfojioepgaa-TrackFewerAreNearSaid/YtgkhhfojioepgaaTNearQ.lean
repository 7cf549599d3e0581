/- What Simple and Fewest keep: near steps from the first sample to the last one; Fewest keeps no more. -/
import Derived.Test.YtgkhhfojioepgaaTNearP
namespace Go.Proofs.Ytgkhhfojioepgaa
open Go.RowKit
set_option linter.unusedSimpArgs false
set_option linter.unusedVariables false

/-- A list that is kept: near steps from the first sample to the last one. -/
def KeptL (ss : List Smp) (most : Int) (l : List Nat) : Prop := ∃ L, l = 0 :: L ∧ NrC (nrS ss most) 0 L ∧ lastN 0 L = ss.length - 1
theorem nrC_le {nr : Nat → Nat → Bool} : ∀ (L : List Nat) (p : Nat), NrC nr p L → p ≤ lastN p L ∧ ∀ x ∈ L, p < x ∧ x ≤ lastN p L
  | [], p, _ => ⟨Nat.le_refl _, fun x h => absurd h (by simp)⟩
  | q :: r, p, h => by
    obtain ⟨a, b⟩ := nrC_le r q h.2.2
    have h1 := h.1
    refine ⟨by show p ≤ lastN q r; omega, fun x hx => ?_⟩
    show p < x ∧ x ≤ lastN q r
    rcases List.mem_cons.mp hx with e | e
    · subst e; exact ⟨h1, a⟩
    · have := b x e; omega
theorem sim_kept {a : Act} {most : Int} (HS : SOk a.ss) (hM : 0 ≤ most * most) (hn : 1 ≤ a.ss.length) {l : List Nat} (h : SimR a most 0 l) : KeptL a.ss most l := by
  have e := h.1 rfl
  unfold simL at e
  rw [if_neg (by omega)] at e
  by_cases h1 : a.ss.length = 1
  · rw [if_pos h1] at e
    exact ⟨[], e, trivial, by rw [h1]; rfl⟩
  · rw [if_neg h1] at e
    obtain ⟨p, q⟩ := ks_near HS hM (a.ss.length - 1 - 0) 0 (a.ss.length - 1) (by omega) (by omega) (by omega)
    exact ⟨_, e, p, q⟩
theorem nrS_next {ss : List Smp} {most : Int} (k : Nat) : nrS ss most k (k + 1) = true := nrS_iff.mpr fun q h1 h2 => absurd h2 (by omega)
theorem path_nr {ss : List Smp} {most : Int} {k : Nat} (h : PthEnd ss.length (fwN ss.length (nrS ss most)) 0 k) : ∀ m j, j + m + 1 = k → NrC (nrS ss most) (pth (fwN ss.length (nrS ss most)) 0 j) ((List.range' (j + 1) m).map (pth (fwN ss.length (nrS ss most)) 0)) ∧ lastN (pth (fwN ss.length (nrS ss most)) 0 j) ((List.range' (j + 1) m).map (pth (fwN ss.length (nrS ss most)) 0)) = pth (fwN ss.length (nrS ss most)) 0 (j + m)
  | 0, _, _ => ⟨trivial, rfl⟩
  | m + 1, j, hj => by
    have h1 := h.1 j (by omega)
    have h2 := h.1 (j + 1) (by omega)
    have h3 : pth (fwN ss.length (nrS ss most)) 0 (j + 1) = fwN ss.length (nrS ss most) (pth (fwN ss.length (nrS ss most)) 0 j) := rfl
    have h4 : pth (fwN ss.length (nrS ss most)) 0 j + 1 < ss.length := by
      rw [h3] at h2
      rcases Nat.lt_or_ge (pth (fwN ss.length (nrS ss most)) 0 j + 1) ss.length with q | q
      · exact q
      · rw [fwN_end q] at h2; omega
    obtain ⟨a, b⟩ := path_nr h m (j + 1) (by omega)
    have c := (fw_step (nr := nrS ss most) h4).2
    have d := (fwN_in ss.length (nrS ss most) _ h1).1
    rw [List.range'_succ, List.map_cons]
    refine ⟨⟨by rw [h3]; exact d, ?_, a⟩, ?_⟩
    · rw [h3]
      rcases c with c | c
      · rw [c]; exact nrS_next _
      · exact c
    · show lastN (pth (fwN ss.length (nrS ss most)) 0 (j + 1)) _ = _
      rw [b]; congr 1; omega
theorem few_kept {a : Act} {most : Int} (hn : 1 ≤ a.ss.length) {l : List Nat} (h : FewR a most 0 l) : KeptL a.ss most l := by
  obtain ⟨k, p, e⟩ := h.1 rfl
  have hc := fw_count hn p
  obtain ⟨m, hm⟩ : ∃ m, k = m + 1 := ⟨k - 1, by omega⟩
  obtain ⟨x, y⟩ := path_nr p m 0 (by omega)
  refine ⟨(List.range' 1 m).map (pth (fwN a.ss.length (nrS a.ss most)) 0), ?_, x, ?_⟩
  · rw [e, hm, List.range_eq_range', List.range'_succ, List.map_cons]; rfl
  · have := y
    rw [Nat.zero_add, Nat.zero_add] at this
    show lastN 0 _ = _
    refine Eq.trans this ?_
    have h1 := p.1 m (by omega)
    have h2 : pth (fwN a.ss.length (nrS a.ss most)) 0 (m + 1) = a.ss.length := by rw [← hm]; exact p.2
    have h3 : fwN a.ss.length (nrS a.ss most) (pth (fwN a.ss.length (nrS a.ss most)) 0 m) = a.ss.length := h2
    rcases Nat.lt_or_ge (pth (fwN a.ss.length (nrS a.ss most)) 0 m + 1) a.ss.length with q | q
    · have := fwN_lt (nr := nrS a.ss most) q; omega
    · omega
/-- Fewest keeps no more than Simple. -/
theorem few_le {a : Act} {most : Int} (HS : SOk a.ss) (hM : 0 ≤ most * most) (hn : 1 ≤ a.ss.length) {l m : List Nat} (h : SimR a most 0 l) (h' : FewR a most 0 m) : m.length ≤ l.length := by
  obtain ⟨L, e, hL, hl⟩ := sim_kept HS hM hn h
  obtain ⟨k, p, e2⟩ := h'.1 rfl
  have hc := fw_count hn p
  have := fw_least a.ss.length (nrS a.ss most) (a.ss.length - 1) (by omega) 0 (by omega) (by omega) L hL hl (fun x hx => by have := (nrC_le L 0 hL).2 x hx; omega)
  rw [e2, e]
  simp only [List.length_map, List.length_range, List.length_cons]
  omega
end Go.Proofs.Ytgkhhfojioepgaa
