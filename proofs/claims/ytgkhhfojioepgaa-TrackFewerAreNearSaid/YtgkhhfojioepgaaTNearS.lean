/- What At is of the kept samples, at the second of any sample, purely. -/
import Derived.Test.YtgkhhfojioepgaaTNearR
namespace Go.Proofs.Ytgkhhfojioepgaa
open Go.RowKit
set_option linter.unusedSimpArgs false
set_option linter.unusedVariables false

theorem ints_of {w : World} {ao : Option Addr} {l : List Nat} (h : IntsC w ao l.length (fun j => ((l[j]?.getD 0 : Nat) : Int))) (hn : 0 < l.length) : ∃ g, ao = some ⟨g, 0, none⟩ ∧ IntsAt w (some ⟨g, 0, none⟩) (intsN l) := by
  obtain ⟨g, rfl, _⟩ := h 0 hn
  refine ⟨g, rfl, fun h => by simp at h, fun a ha _ => by cases ha; rfl, fun a ha i hi => ?_⟩
  cases ha
  rw [intsN_len] at hi
  obtain ⟨g', hg, hc⟩ := h i hi
  obtain rfl : g = g' := by injection hg with hg; injection hg
  rw [intsN_at hi]
  simpa using hc
theorem kept_pos {ss : List Smp} {most : Int} {l : List Nat} (h : KeptL ss most l) : 0 < l.length := by
  obtain ⟨L, rfl, _⟩ := h; simp
theorem lastN_at : ∀ (L : List Nat) (p : Nat), ((p :: L)[L.length]?.getD 0) = lastN p L
  | [], p => by simp [lastN]
  | q :: r, p => by
    have := lastN_at r q
    simp only [lastN]
    rw [← this]; simp
theorem at_kept {a : Act} {most : Int} (h : chkE a = 0) (hM : 0 ≤ most * most) (hn : 1 ≤ a.ss.length) {l : List Nat} (hl : KeptL a.ss most l) {m : Nat} (hm : m < a.ss.length) :
    ∃ x, atO (keptA a l) (smpD a.ss m).t = (x, 0) ∧ sqP x (smpD a.ss m) ≤ most * most := by
  have ok := chk_ok h
  have HS := sok_of ok
  have hc := kept_ok h hn hl
  have HK : SOk (l.map (smpD a.ss)) := sok_of (chk_ok hc)
  have hp := kept_pos hl
  have hin := kept_in hn hl
  have hlen : (keptA a l).ss.length ≠ 0 := by show (l.map (smpD a.ss)).length ≠ 0; rw [List.length_map]; omega
  have hlast : (smpD a.ss m).t ≤ spanL (keptA a l).ss := by
    rw [span_last hlen]
    show _ ≤ (smpD (l.map (smpD a.ss)) ((l.map (smpD a.ss)).length - 1)).t
    rw [List.length_map, smpD_at (ss := l.map (smpD a.ss)) (k := l.length - 1) (by rw [List.length_map]; omega), List.getElem_map]
    obtain ⟨L, rfl, h1, h2⟩ := hl
    have e := lastN_at L 0
    rw [h2] at e
    have e2 : (0 :: L)[(0 :: L).length - 1]'(by simp) = a.ss.length - 1 := by
      rw [← e]; simp
    rw [e2]
    exact times_le HS (by omega) (by omega)
  have h0 := (HS.inn m hm).1
  refine ⟨atV (keptA a l).ss (smpD a.ss m).t (idxV (keptA a l).ss (smpD a.ss m).t), ?_, ?_⟩
  · unfold atO
    rw [if_pos hc, if_neg hlen, if_pos ⟨h0, hlast⟩]
  · have q := idx_lt (ss := (keptA a l).ss) HK hlen hlast
    have q2 : (keptA a l).ss.length = l.length := List.length_map _
    exact kept_near HS hM hn hl hm (idx_is HK _) (by omega)
theorem sq_small {d e M : Int} (h : d * d + e * e ≤ M) (hM : M ≤ 10000000000000000) : (-100000000 ≤ d ∧ d ≤ 100000000) ∧ (-100000000 ≤ e ∧ e ≤ 100000000) := by
  have a : ∀ x : Int, 0 ≤ x * x := fun x => by
    rcases Int.le_total 0 x with q | q
    · exact Int.mul_nonneg q q
    · have := Int.mul_nonneg (a := -x) (b := -x) (by omega) (by omega); rwa [Int.neg_mul_neg] at this
  have b : ∀ x : Int, x * x ≤ 10000000000000000 → -100000000 ≤ x ∧ x ≤ 100000000 := fun x hx => by
    refine ⟨?_, ?_⟩
    · rcases Int.lt_or_le x (-100000000) with q | q
      · have : 100000001 * 100000001 ≤ (-x) * (-x) := Int.mul_le_mul (by omega) (by omega) (by decide) (by omega)
        rw [Int.neg_mul_neg] at this; omega
      · exact q
    · rcases Int.lt_or_le 100000000 x with q | q
      · have : 100000001 * 100000001 ≤ x * x := Int.mul_le_mul (by omega) (by omega) (by decide) (by omega)
        omega
      · exact q
  have := a d; have := a e
  exact ⟨b d (by omega), b e (by omega)⟩
end Go.Proofs.Ytgkhhfojioepgaa
