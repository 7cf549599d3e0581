/- The mathematics of the reference's shares: whoever has the greatest rest of those that got nothing more yet. No program. -/
import Derived.Test.YtblaplnpehnjfabQShareP
namespace Go.Proofs.Ytblaplnpehnjfab

def givenB (f : Nat → Nat) (j i : Nat) : Bool := (List.range j).any fun q => decide (f q = i)
theorem given_iff {f : Nat → Nat} {j i : Nat} : givenB f j i = true ↔ ∃ q, q < j ∧ f q = i := by
  simp [givenB]
theorem given_zero (f : Nat → Nat) (i : Nat) : givenB f 0 i = false := by simp [givenB]
def updB (G : Nat → Bool) (i : Nat) (v : Bool) : Nat → Bool := fun k => if k = i then v else G k
theorem given_succ (f : Nat → Nat) (j : Nat) : updB (givenB f j) (f j) true = givenB f (j + 1) := by
  funext k
  unfold updB
  by_cases h : k = f j
  · rw [if_pos h]
    exact (given_iff.2 ⟨j, by omega, h.symm⟩).symm
  · rw [if_neg h]
    rw [Bool.eq_iff_iff, given_iff, given_iff]
    constructor
    · rintro ⟨q, h1, h2⟩; exact ⟨q, by omega, h2⟩
    · rintro ⟨q, h1, h2⟩
      refine ⟨q, ?_, h2⟩
      rcases Nat.lt_or_ge q j with z | z
      · exact z
      · exact absurd (by rw [← h2, show q = j by omega]) h

/-- The best of the first k that are not marked; -1: there is none. -/
def BestIs (key : Nat → Int) (G : Nat → Bool) (k : Nat) (B : Int) : Prop :=
  (B = -1 ∧ ∀ i, i < k → G i = true) ∨ ∃ m : Nat, B = (m : Int) ∧ m < k ∧ G m = false ∧ ∀ i, i < k → G i = false → i = m ∨ Bef key m i

section
variable {key : Nat → Int} {G : Nat → Bool} {k m : Nat} {B : Int}
theorem best_start : BestIs key G 0 (-1) := .inl ⟨rfl, fun i h => by omega⟩
theorem best_given (h : BestIs key G k B) (hg : G k = true) : BestIs key G (k + 1) B := by
  rcases h with ⟨h1, h2⟩ | ⟨m, h1, h2, h3, h4⟩
  · refine .inl ⟨h1, fun i hi => ?_⟩
    rcases Nat.lt_or_ge i k with z | z
    · exact h2 i z
    · rw [show i = k by omega]; exact hg
  · refine .inr ⟨m, h1, by omega, h3, fun i hi hf => ?_⟩
    rcases Nat.lt_or_ge i k with z | z
    · exact h4 i z hf
    · rw [show i = k by omega, hg] at hf; simp at hf
theorem best_first (h : BestIs key G k B) (hB : B < 0) (hg : G k = false) : BestIs key G (k + 1) (k : Int) := by
  rcases h with ⟨h1, h2⟩ | ⟨m, h1, _⟩
  · refine .inr ⟨k, rfl, by omega, hg, fun i hi hf => ?_⟩
    rcases Nat.lt_or_ge i k with z | z
    · rw [h2 i z] at hf; simp at hf
    · exact .inl (by omega)
  · omega
theorem best_more (h : BestIs key G k (m : Int)) (hg : G k = false) (hk : key m < key k) : BestIs key G (k + 1) (k : Int) := by
  rcases h with ⟨h1, _⟩ | ⟨m', h1, h2, h3, h4⟩
  · omega
  · obtain rfl : m = m' := by omega
    refine .inr ⟨k, rfl, by omega, hg, fun i hi hf => ?_⟩
    have hb : Bef key k m := .inl hk
    rcases Nat.lt_or_ge i k with z | z
    · rcases h4 i z hf with q | q
      · exact .inr (by rw [q]; exact hb)
      · exact .inr (hb.trans q)
    · exact .inl (by omega)
theorem best_stay (h : BestIs key G k (m : Int)) (hk : ¬ key m < key k) : BestIs key G (k + 1) (m : Int) := by
  rcases h with ⟨h1, _⟩ | ⟨m', h1, h2, h3, h4⟩
  · omega
  · obtain rfl : m = m' := by omega
    refine .inr ⟨m, rfl, by omega, h3, fun i hi hf => ?_⟩
    rcases Nat.lt_or_ge i k with z | z
    · exact h4 i z hf
    · rw [show i = k by omega]
      refine .inr ?_
      unfold Bef; omega
theorem best_lt (h : BestIs key G k B) : B = -1 ∨ ∃ m : Nat, B = (m : Int) ∧ m < k := by
  rcases h with ⟨h1, _⟩ | ⟨m, h1, h2, _⟩
  · exact .inl h1
  · exact .inr ⟨m, h1, h2⟩
end

theorem best_end {key : Nat → Int} {f : Nat → Nat} {n j : Nat} {B : Int} (ho : Ord key n f) (hj : j < n) (h : BestIs key (givenB f j) n B) : B = (f j : Int) := by
  have hno : givenB f j (f j) = false := by
    rcases hb : givenB f j (f j) with _ | _
    · rfl
    · obtain ⟨q, h1, h2⟩ := given_iff.1 hb
      have := ho.inj _ _ h2; omega
  rcases h with ⟨_, h2⟩ | ⟨m, h1, h2, h3, h4⟩
  · have := h2 (f j) (ho.lt hj)
    rw [hno] at this; simp at this
  · rcases h4 (f j) (ho.lt hj) hno with q | q
    · rw [h1, q]
    · obtain ⟨p, hp, hfp⟩ := ho.place h2
      have hpj : j ≤ p := by
        rcases Nat.lt_or_ge p j with z | z
        · have : givenB f j m = true := given_iff.2 ⟨p, z, hfp⟩
          rw [h3] at this; simp at this
        · exact z
      rcases Nat.eq_or_lt_of_le hpj with e | e
      · rw [h1, e, hfp]
      · have := ho.srt j p (by omega) e hp
        rw [hfp] at this
        unfold Bef at this q; omega
end Go.Proofs.Ytblaplnpehnjfab
