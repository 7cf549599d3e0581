/- Of what Simple and Fewest keep, purely: all steps are near, and Fewest's are the fewest. -/
import Derived.Test.YtgkhhfojioepgaaBaseG
namespace Go.Proofs.Ytgkhhfojioepgaa
open Go.RowKit
set_option linter.unusedSimpArgs false
set_option linter.unusedVariables false

/-- Steps that are all near, from p on. -/
def NrC (nr : Nat → Nat → Bool) : Nat → List Nat → Prop
  | _, [] => True
  | p, q :: r => p < q ∧ nr p q = true ∧ NrC nr q r
def lastN : Nat → List Nat → Nat
  | p, [] => p
  | _, q :: r => lastN q r
theorem nrC_append {nr : Nat → Nat → Bool} : ∀ (l m : List Nat) (p : Nat), NrC nr p l → NrC nr (lastN p l) m → NrC nr p (l ++ m)
  | [], _, _, _, h => h
  | q :: r, m, _, h, h' => ⟨h.1, h.2.1, nrC_append r m q h.2.2 h'⟩
theorem lastN_append : ∀ (l m : List Nat) (p : Nat), lastN p (l ++ m) = lastN (lastN p l) m
  | [], _, _ => rfl
  | q :: r, m, _ => lastN_append r m q
theorem ks_near {ss : List Smp} (HS : SOk ss) {most : Int} (hM : 0 ≤ most * most) : ∀ f i j, i < j → j < ss.length → j - i ≤ f → NrC (nrS ss most) i (ksV ss (most * most) f i j ++ [j]) ∧ lastN i (ksV ss (most * most) f i j ++ [j]) = j
  | 0, _, _, _, _, _ => by omega
  | f + 1, i, j, hij, hj, hf => by
    unfold ksV
    split
    · rename_i h
      have q := wst_in HS hM (Nat.le_of_lt hij) hj h
      obtain ⟨a1, a2⟩ := ks_near HS hM f i (wstV ss i j (j - 1 - i)).1 (by omega) (by omega) (by omega)
      obtain ⟨b1, b2⟩ := ks_near HS hM f (wstV ss i j (j - 1 - i)).1 j (by omega) hj (by omega)
      have e : ksV ss (most * most) f i (wstV ss i j (j - 1 - i)).1 ++ (wstV ss i j (j - 1 - i)).1 :: ksV ss (most * most) f (wstV ss i j (j - 1 - i)).1 j ++ [j] = (ksV ss (most * most) f i (wstV ss i j (j - 1 - i)).1 ++ [(wstV ss i j (j - 1 - i)).1]) ++ (ksV ss (most * most) f (wstV ss i j (j - 1 - i)).1 j ++ [j]) := by simp
      rw [e]
      exact ⟨nrC_append _ _ _ a1 (by rw [a2]; exact b1), by rw [lastN_append, a2]; exact b2⟩
    · rename_i h
      refine ⟨⟨hij, nrS_iff.mpr fun k h1 h2 => ?_, trivial⟩, rfl⟩
      have := (wst_bd HS (i := i) hj (j - 1 - i) (by omega)).2.2.2.2.1 k h1 (by omega)
      omega
/-- Later rounds leave what earlier ones have found. -/
theorem fw_keep (n : Nat) (nr : Nat → Nat → Bool) (d : Nat) : ∀ e k, n - 1 - d ≤ k → d + e + 1 ≤ n → (fwV n nr (d + e)).1 k = (fwV n nr d).1 k ∧ (fwV n nr (d + e)).2 k = (fwV n nr d).2 k
  | 0, _, _, _ => ⟨rfl, rfl⟩
  | e + 1, k, hk, hn => by
    obtain ⟨a, b⟩ := fw_keep n nr d e k hk (by omega)
    constructor
    · show (if k = n - 2 - (d + e) then _ else _) = _
      rw [if_neg (by omega)]; exact a
    · show (if k = n - 2 - (d + e) then _ else _) = _
      rw [if_neg (by omega)]; exact b
theorem fwB_least (S : Nat → Nat) (nr : Nat → Bool) (i : Nat) : ∀ m q, i < q → q ≤ i + 1 + m → (q = i + 1 ∨ nr q = true) → S (fwB S nr i m) ≤ S q
  | 0, q, h1, h2, _ => by
    obtain rfl : q = i + 1 := by omega
    unfold fwB; exact Nat.le_refl _
  | m + 1, q, h1, h2, h3 => by
    unfold fwB
    by_cases e : q = i + 2 + m
    · subst e
      split
      · exact Nat.le_refl _
      · rename_i h
        rcases h3 with c | c
        · omega
        · exact Nat.le_of_not_lt fun g => h ⟨g, c⟩
    · have := fwB_least S nr i m q h1 (by omega) h3
      split
      · rename_i h; omega
      · exact this
theorem fw_least (n : Nat) (nr : Nat → Nat → Bool) : ∀ d, d + 1 ≤ n → ∀ k, n - 1 - d ≤ k → k < n → ∀ L, NrC nr k L → lastN k L = n - 1 → (∀ x ∈ L, x < n) → (fwV n nr d).1 k ≤ L.length
  | 0, _, k, _, _, L, _, _, _ => by simp [fwV]
  | d + 1, hd, k, hk, hkn, L, hL, hl, hx => by
    by_cases e : k = n - 2 - d
    · show (if k = n - 2 - d then _ else _) ≤ _
      rw [if_pos e]
      cases L with
      | nil => have : k = n - 1 := hl; omega
      | cons q r =>
        have hq := hx q (by simp)
        have a := fw_least n nr d (by omega) q (by have := hL.1; omega) hq r hL.2.2 hl (fun x h => hx x (List.mem_cons_of_mem _ h))
        have b := fwB_least (fwV n nr d).1 (nr (n - 2 - d)) (n - 2 - d) d q (by have := hL.1; omega) (by omega) (Or.inr (by rw [← e]; exact hL.2.1))
        simp only [List.length_cons]; omega
    · have := (fw_keep n nr d 1 k (by omega) (by omega)).1
      rw [this]
      exact fw_least n nr d (by omega) k (by omega) hkn L hL hl hx
theorem fw_step {n : Nat} {nr : Nat → Nat → Bool} {k : Nat} (hk : k + 1 < n) : (fwV n nr (n - 1)).1 k = (fwV n nr (n - 1)).1 (fwN n nr k) + 1 ∧ (fwN n nr k = k + 1 ∨ nr k (fwN n nr k) = true) := by
  obtain ⟨d, hd⟩ : ∃ d, k = n - 2 - d ∧ d + 2 ≤ n := ⟨n - 2 - k, by omega⟩
  obtain ⟨hd, hd2⟩ := hd
  have e : n - 1 = (d + 1) + (n - 2 - d) := by omega
  have a := fw_keep n nr (d + 1) (n - 2 - d) k (by omega) (by omega)
  have hB := fwB_in (fwV n nr d).1 (nr (n - 2 - d)) (n - 2 - d) d
  have n1 : fwN n nr k = fwB (fwV n nr d).1 (nr (n - 2 - d)) (n - 2 - d) d := by
    unfold fwN; rw [if_pos hk, e, a.2]
    show (if k = n - 2 - d then _ else _) = _
    rw [if_pos hd]
  have n2 : (fwV n nr (n - 1)).1 k = (fwV n nr d).1 (fwB (fwV n nr d).1 (nr (n - 2 - d)) (n - 2 - d) d) + 1 := by
    rw [e, a.1]
    show (if k = n - 2 - d then _ else _) = _
    rw [if_pos hd]
  have c := (fw_keep n nr d (n - 1 - d) (fwN n nr k) (by rw [n1]; omega) (by omega)).1
  rw [show d + (n - 1 - d) = n - 1 by omega] at c
  refine ⟨by rw [n2, c, n1], ?_⟩
  rw [n1, hd]
  have hch : ∀ m, fwB (fwV n nr d).1 (nr (n - 2 - d)) (n - 2 - d) m = n - 2 - d + 1 ∨ nr (n - 2 - d) (fwB (fwV n nr d).1 (nr (n - 2 - d)) (n - 2 - d) m) = true := by
    intro m
    induction m with
    | zero => left; unfold fwB; rfl
    | succ m ih =>
      unfold fwB
      split
      · rename_i h; right; exact h.2
      · exact ih
  exact hch d
theorem fwN_end {n : Nat} {nr : Nat → Nat → Bool} {k : Nat} (h : n ≤ k + 1) : fwN n nr k = n := by unfold fwN; rw [if_neg (by omega)]
theorem fwN_lt {n : Nat} {nr : Nat → Nat → Bool} {k : Nat} (h : k + 1 < n) : fwN n nr k < n := by
  have := fw_next n nr (n - 1) (by omega) k (by omega) h
  unfold fwN; rw [if_pos h]; omega
/-- How many numbers Fewest keeps. -/
theorem fw_count {n : Nat} {nr : Nat → Nat → Bool} (hn : 1 ≤ n) {k : Nat} (h : PthEnd n (fwN n nr) 0 k) : k = (fwV n nr (n - 1)).1 0 + 1 := by
  have hk : 0 < k := by
    rcases Nat.eq_zero_or_pos k with e | e
    · subst e; have : (0 : Nat) = n := h.2; omega
    · exact e
  have hlast : (fwV n nr (n - 1)).1 (n - 1) = 0 := by
    have := (fw_keep n nr 0 (n - 1) (n - 1) (by omega) (by omega)).1
    rw [Nat.zero_add] at this
    rw [this]; rfl
  have st : ∀ j, j < k → (fwV n nr (n - 1)).1 0 = (fwV n nr (n - 1)).1 (pth (fwN n nr) 0 j) + j := by
    intro j
    induction j with
    | zero => intro _; rfl
    | succ j ih =>
      intro hj
      have a := ih (by omega)
      have h1 := h.1 j (by omega)
      have h2 := h.1 (j + 1) hj
      have h3 : pth (fwN n nr) 0 (j + 1) = fwN n nr (pth (fwN n nr) 0 j) := rfl
      have h4 : pth (fwN n nr) 0 j + 1 < n := by
        rw [h3] at h2
        rcases Nat.lt_or_ge (pth (fwN n nr) 0 j + 1) n with q | q
        · exact q
        · rw [fwN_end q] at h2; omega
      have b := (fw_step (nr := nr) h4).1
      rw [h3]; omega
  have z := st (k - 1) (by omega)
  have hl : pth (fwN n nr) 0 (k - 1) = n - 1 := by
    have h1 := h.1 (k - 1) (by omega)
    have h2 : pth (fwN n nr) 0 k = n := h.2
    obtain ⟨j, rfl⟩ : ∃ j, k = j + 1 := ⟨k - 1, by omega⟩
    have h3 : fwN n nr (pth (fwN n nr) 0 j) = n := h2
    rw [Nat.add_sub_cancel] at h1 ⊢
    rcases Nat.lt_or_ge (pth (fwN n nr) 0 j + 1) n with q | q
    · have := fwN_lt (nr := nr) q; omega
    · omega
  rw [hl, hlast] at z
  omega
end Go.Proofs.Ytgkhhfojioepgaa
