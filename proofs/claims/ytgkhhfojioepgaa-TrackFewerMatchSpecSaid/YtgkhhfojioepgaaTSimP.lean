/- The samples that Simple keeps, purely. -/
import Derived.Test.YtgkhhfojioepgaaTWorst
namespace Go.Proofs.Ytgkhhfojioepgaa
open Go.RowKit
set_option linter.unusedSimpArgs false
set_option linter.unusedVariables false

/-- The samples that are kept between two, in order (f: fuel). -/
noncomputable def ksV (ss : List Smp) (M : Int) : Nat → Nat → Nat → List Nat
  | 0, _, _ => []
  | f + 1, i, j => if M < (wstV ss i j (j - 1 - i)).2 then ksV ss M f i (wstV ss i j (j - 1 - i)).1 ++ (wstV ss i j (j - 1 - i)).1 :: ksV ss M f (wstV ss i j (j - 1 - i)).1 j else []
theorem wst_in {ss : List Smp} (HS : SOk ss) {M : Int} (hM : 0 ≤ M) {i j : Nat} (hij : i ≤ j) (hj : j < ss.length) (h : M < (wstV ss i j (j - 1 - i)).2) : i < (wstV ss i j (j - 1 - i)).1 ∧ (wstV ss i j (j - 1 - i)).1 < j := by
  have hlt : i < j := by
    rcases Nat.lt_or_ge i j with q | q
    · exact q
    · exfalso
      rw [show j - 1 - i = 0 by omega] at h
      unfold wstV at h; simp at h; omega
  have q := (wst_bd HS (i := i) hj (j - 1 - i) (by omega)).2.2.2.1 (by omega)
  omega
theorem ks_fuel {ss : List Smp} (HS : SOk ss) {M : Int} (hM : 0 ≤ M) : ∀ f g i j, i ≤ j → j < ss.length → j - i ≤ f → j - i ≤ g → ksV ss M f i j = ksV ss M g i j
  | 0, 0, _, _, _, _, _, _ => rfl
  | 0, g + 1, i, j, hij, hj, hf, _ => by
    unfold ksV
    rw [if_neg]
    intro h
    have := wst_in HS hM hij hj h; omega
  | f + 1, 0, i, j, hij, hj, _, hg => by
    unfold ksV
    rw [if_neg]
    intro h
    have := wst_in HS hM hij hj h; omega
  | f + 1, g + 1, i, j, hij, hj, hf, hg => by
    unfold ksV
    split
    · rename_i h
      have q := wst_in HS hM hij hj h
      rw [ks_fuel HS hM f g i _ (by omega) (by omega) (by omega) (by omega), ks_fuel HS hM f g _ j (by omega) (by omega) (by omega) (by omega)]
    · rfl
/-- The same without fuel. -/
noncomputable def ksC (ss : List Smp) (M : Int) (i j : Nat) : List Nat := ksV ss M (j - i) i j
theorem ksC_eq {ss : List Smp} (HS : SOk ss) {M : Int} (hM : 0 ≤ M) {i j : Nat} (hij : i ≤ j) (hj : j < ss.length) {A : Nat} {B : Int} (h : wstV ss i j (j - 1 - i) = (A, B)) : ksC ss M i j = if M < B then ksC ss M i A ++ A :: ksC ss M A j else [] := by
  by_cases hlt : M < B
  · have q := wst_in HS hM hij hj (by rw [h]; exact hlt)
    rw [h] at q
    simp only at q
    rw [if_pos hlt]
    unfold ksC
    obtain ⟨f, hf⟩ : ∃ f, j - i = f + 1 := ⟨j - i - 1, by omega⟩
    rw [hf]
    conv => lhs; unfold ksV
    rw [h]
    simp only
    rw [if_pos hlt, ks_fuel HS hM f (A - i) i A (by omega) (by omega) (by omega) (by omega), ks_fuel HS hM f (j - A) A j (by omega) (by omega) (by omega) (by omega)]
  · rw [if_neg hlt]
    unfold ksC
    cases hf : j - i with
    | zero => rfl
    | succ f => unfold ksV; rw [h]; simp only; rw [if_neg hlt]
theorem ks_in {ss : List Smp} (HS : SOk ss) {M : Int} (hM : 0 ≤ M) : ∀ f i j, i ≤ j → j < ss.length → (∀ k ∈ ksV ss M f i j, i < k ∧ k < j) ∧ (ksV ss M f i j).Pairwise (· < ·)
  | 0, _, _, _, _ => ⟨fun k h => absurd h (by unfold ksV; simp), by unfold ksV; exact List.Pairwise.nil⟩
  | f + 1, i, j, hij, hj => by
    unfold ksV
    split
    · rename_i h
      have q := wst_in HS hM hij hj h
      obtain ⟨a1, a2⟩ := ks_in HS hM f i (wstV ss i j (j - 1 - i)).1 (by omega) (by omega)
      obtain ⟨b1, b2⟩ := ks_in HS hM f (wstV ss i j (j - 1 - i)).1 j (by omega) hj
      refine ⟨fun k hk => ?_, ?_⟩
      · rcases List.mem_append.mp hk with c | c
        · have := a1 k c; omega
        · rcases List.mem_cons.mp c with c | c
          · omega
          · have := b1 k c; omega
      · rw [List.pairwise_append]
        refine ⟨a2, List.pairwise_cons.mpr ⟨fun k hk => (b1 k hk).1, b2⟩, fun x hx y hy => ?_⟩
        have hx2 := a1 x hx
        rcases List.mem_cons.mp hy with c | c
        · omega
        · have := b1 y c; omega
    · exact ⟨fun k h => absurd h (by simp), List.Pairwise.nil⟩
/-- The list of Simple. -/
noncomputable def simL (ss : List Smp) (M : Int) : List Nat := if ss.length = 0 then [] else if ss.length = 1 then [0] else 0 :: (ksC ss M 0 (ss.length - 1) ++ [ss.length - 1])
theorem sorted_one : ∀ (l m : List Nat), l.Pairwise (· < ·) → m.Pairwise (· < ·) → (∀ x, x ∈ l ↔ x ∈ m) → l = m
  | [], [], _, _, _ => rfl
  | [], b :: m, _, _, h => by have := (h b).mpr (by simp); simp at this
  | a :: l, [], _, _, h => by have := (h a).mp (by simp); simp at this
  | a :: l, b :: m, hl, hm, h => by
    obtain ⟨l1, l2⟩ := List.pairwise_cons.mp hl
    obtain ⟨m1, m2⟩ := List.pairwise_cons.mp hm
    have hab : a = b := by
      rcases List.mem_cons.mp ((h a).mp (by simp)) with c | c
      · exact c
      · rcases List.mem_cons.mp ((h b).mpr (by simp)) with d | d
        · exact d.symm
        · have := m1 a c; have := l1 b d; omega
    subst hab
    rw [sorted_one l m l2 m2 (fun x => ?_)]
    constructor
    · intro hx
      rcases List.mem_cons.mp ((h x).mp (List.mem_cons_of_mem _ hx)) with c | c
      · have := l1 x hx; omega
      · exact c
    · intro hx
      rcases List.mem_cons.mp ((h x).mpr (List.mem_cons_of_mem _ hx)) with c | c
      · have := m1 x hx; omega
      · exact c
/-- Is a sample kept? -/
noncomputable def kepB (ss : List Smp) (M : Int) (k : Nat) : Bool := decide (k = 0) || decide (k = ss.length - 1) || decide (k ∈ ksC ss M 0 (ss.length - 1))
theorem simL_filter {ss : List Smp} (HS : SOk ss) {M : Int} (hM : 0 ≤ M) : (List.range ss.length).filter (kepB ss M) = simL ss M := by
  by_cases h0 : ss.length = 0
  · unfold simL; rw [if_pos h0, h0]; rfl
  · obtain ⟨a1, a2⟩ := ks_in HS hM (ss.length - 1 - 0) 0 (ss.length - 1) (by omega) (by omega)
    apply sorted_one
    · exact List.Pairwise.filter _ List.pairwise_lt_range
    · unfold simL
      rw [if_neg h0]
      split
      · simp
      · rw [List.pairwise_cons]
        refine ⟨fun x hx => ?_, ?_⟩
        · rcases List.mem_append.mp hx with c | c
          · exact (a1 x c).1
          · rw [List.mem_singleton] at c; omega
        · rw [List.pairwise_append]
          refine ⟨a2, by simp, fun x hx y hy => ?_⟩
          rw [List.mem_singleton] at hy
          have := a1 x hx; omega
    · intro x
      rw [List.mem_filter, List.mem_range]
      unfold kepB simL
      rw [if_neg h0]
      simp only [Bool.or_eq_true, decide_eq_true_iff]
      have hk : x ∈ ksC ss M 0 (ss.length - 1) → 0 < x ∧ x < ss.length - 1 := fun h => a1 x h
      split
      · rename_i h1
        rw [List.mem_singleton]
        constructor
        · intro h; omega
        · intro h; subst h; exact ⟨by omega, Or.inl (Or.inl rfl)⟩
      · rw [List.mem_cons, List.mem_append, List.mem_singleton]
        constructor
        · rintro ⟨_, (h | h) | h⟩
          · exact Or.inl h
          · exact Or.inr (Or.inr h)
          · exact Or.inr (Or.inl h)
        · rintro (h | h | h)
          · exact ⟨by omega, Or.inl (Or.inl h)⟩
          · exact ⟨by have := hk h; omega, Or.inr h⟩
          · exact ⟨by omega, Or.inl (Or.inr h)⟩
end Go.Proofs.Ytgkhhfojioepgaa
