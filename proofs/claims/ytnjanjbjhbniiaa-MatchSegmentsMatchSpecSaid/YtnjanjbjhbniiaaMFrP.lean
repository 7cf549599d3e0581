/- How far two people must be apart who go along two lists, purely: the table of Apart, turned round, backwards, and its bounds. -/
import Derived.Test.YtnjanjbjhbniiaaProg
namespace Go.Proofs.Ytnjanjbjhbniiaa

def mn3 (a b c : Int) : Int := min (min a b) c
/-- The table: what need not be exceeded up to the places i and j. -/
def frD (s : Nat → Nat → Int) : Nat → Nat → Int
  | 0, 0 => max 0 (s 0 0)
  | i + 1, 0 => max (frD s i 0) (s (i + 1) 0)
  | 0, j + 1 => max (frD s 0 j) (s 0 (j + 1))
  | i + 1, j + 1 => max (mn3 (frD s i j) (frD s i (j + 1)) (frD s (i + 1) j)) (s (i + 1) (j + 1))

theorem frD_turn (s : Nat → Nat → Int) : ∀ n i j, i + j = n → frD (fun a b => s b a) j i = frD s i j := by
  intro n
  induction n using Nat.strongRecOn with
  | _ n ih =>
    intro i j hn
    match i, j with
    | 0, 0 => simp [frD]
    | i + 1, 0 => simp only [frD]; rw [ih (i + 0) (by omega) i 0 rfl]
    | 0, j + 1 => simp only [frD]; rw [ih (0 + j) (by omega) 0 j rfl]
    | i + 1, j + 1 =>
      simp only [frD]
      rw [ih (i + j) (by omega) i j rfl, ih (i + (j + 1)) (by omega) i (j + 1) rfl, ih (i + 1 + j) (by omega) (i + 1) j rfl]
      unfold mn3
      congr 1; omega

theorem frD_nonneg (s : Nat → Nat → Int) : ∀ n i j, i + j = n → 0 ≤ frD s i j := by
  intro n
  induction n using Nat.strongRecOn with
  | _ n ih =>
    intro i j hn
    match i, j with
    | 0, 0 => simp only [frD]; omega
    | i + 1, 0 => simp only [frD]; have := ih (i + 0) (by omega) i 0 rfl; omega
    | 0, j + 1 => simp only [frD]; have := ih (0 + j) (by omega) 0 j rfl; omega
    | i + 1, j + 1 =>
      simp only [frD]
      have h1 := ih (i + j) (by omega) i j rfl; have h2 := ih (i + (j + 1)) (by omega) i (j + 1) rfl; have h3 := ih (i + 1 + j) (by omega) (i + 1) j rfl
      unfold mn3; omega

theorem frD_first (s : Nat → Nat → Int) : ∀ n i j, i + j = n → s 0 0 ≤ frD s i j := by
  intro n
  induction n using Nat.strongRecOn with
  | _ n ih =>
    intro i j hn
    match i, j with
    | 0, 0 => simp only [frD]; omega
    | i + 1, 0 => simp only [frD]; have := ih (i + 0) (by omega) i 0 rfl; omega
    | 0, j + 1 => simp only [frD]; have := ih (0 + j) (by omega) 0 j rfl; omega
    | i + 1, j + 1 =>
      simp only [frD]
      have h1 := ih (i + j) (by omega) i j rfl; have h2 := ih (i + (j + 1)) (by omega) i (j + 1) rfl; have h3 := ih (i + 1 + j) (by omega) (i + 1) j rfl
      unfold mn3; omega

theorem frD_last (s : Nat → Nat → Int) (i j : Nat) : s i j ≤ frD s i j := by
  match i, j with
  | 0, 0 => simp only [frD]; omega
  | i + 1, 0 => simp only [frD]; omega
  | 0, j + 1 => simp only [frD]; omega
  | i + 1, j + 1 => simp only [frD]; omega

theorem frD_self (s : Nat → Nat → Int) : ∀ i, (∀ k, k ≤ i → s k k = 0) → frD s i i = 0
  | 0, hs => by simp only [frD]; rw [hs 0 (Nat.le_refl _)]; rfl
  | i + 1, hs => by
    have h := frD_self s i fun k hk => hs k (by omega)
    have h2 := frD_nonneg s _ i (i + 1) rfl; have h3 := frD_nonneg s _ (i + 1) i rfl
    simp only [frD]
    rw [h, hs (i + 1) (Nat.le_refl _)]
    unfold mn3; omega

/-- A way through the table, on places that are well. -/
inductive FrWay (P : Nat → Nat → Prop) : Nat → Nat → Nat → Nat → Prop
  | one {i j : Nat} (h : P i j) : FrWay P i j i j
  | down {i j k l : Nat} (w : FrWay P i j k l) (h : P (k + 1) l) : FrWay P i j (k + 1) l
  | right {i j k l : Nat} (w : FrWay P i j k l) (h : P k (l + 1)) : FrWay P i j k (l + 1)
  | both {i j k l : Nat} (w : FrWay P i j k l) (h : P (k + 1) (l + 1)) : FrWay P i j (k + 1) (l + 1)

theorem FrWay.pre {P : Nat → Nat → Prop} {i j k l : Nat} (w : FrWay P i j k l) :
    (∀ i', i = i' + 1 → P i' j → FrWay P i' j k l) ∧ (∀ j', j = j' + 1 → P i j' → FrWay P i j' k l) ∧ (∀ i' j', i = i' + 1 → j = j' + 1 → P i' j' → FrWay P i' j' k l) := by
  induction w with
  | one h => exact ⟨fun i' e p => by subst e; exact .down (.one p) h, fun j' e p => by subst e; exact .right (.one p) h, fun i' j' e e2 p => by subst e; subst e2; exact .both (.one p) h⟩
  | down w h ih => exact ⟨fun i' e p => .down (ih.1 i' e p) h, fun j' e p => .down (ih.2.1 j' e p) h, fun i' j' e e2 p => .down (ih.2.2 i' j' e e2 p) h⟩
  | right w h ih => exact ⟨fun i' e p => .right (ih.1 i' e p) h, fun j' e p => .right (ih.2.1 j' e p) h, fun i' j' e e2 p => .right (ih.2.2 i' j' e e2 p) h⟩
  | both w h ih => exact ⟨fun i' e p => .both (ih.1 i' e p) h, fun j' e p => .both (ih.2.1 j' e p) h, fun i' j' e e2 p => .both (ih.2.2 i' j' e e2 p) h⟩

theorem FrWay.end_ {P : Nat → Nat → Prop} {i j k l : Nat} (w : FrWay P i j k l) : i ≤ k ∧ j ≤ l ∧ P k l := by
  induction w with
  | one h => exact ⟨Nat.le_refl _, Nat.le_refl _, h⟩
  | down w h ih => exact ⟨by omega, ih.2.1, h⟩
  | right w h ih => exact ⟨ih.1, by omega, h⟩
  | both w h ih => exact ⟨by omega, by omega, h⟩

theorem FrWay.back {P : Nat → Nat → Prop} (m n : Nat) {i j k l : Nat} (w : FrWay P i j k l) (hk : k ≤ m) (hl : l ≤ n) :
    FrWay (fun a b => P (m - a) (n - b)) (m - k) (n - l) (m - i) (n - j) := by
  induction w with
  | one h => exact .one (by show P (m - (m - _)) (n - (n - _)); rw [Nat.sub_sub_self hk, Nat.sub_sub_self hl]; exact h)
  | @down k l w h ih => exact (ih (by omega) hl).pre.1 _ (by omega) (by show P (m - (m - (k + 1))) (n - (n - l)); rw [Nat.sub_sub_self hk, Nat.sub_sub_self hl]; exact h)
  | @right k l w h ih => exact (ih hk (by omega)).pre.2.1 _ (by omega) (by show P (m - (m - k)) (n - (n - (l + 1))); rw [Nat.sub_sub_self hk, Nat.sub_sub_self hl]; exact h)
  | @both k l w h ih => exact (ih (by omega) (by omega)).pre.2.2 _ _ (by omega) (by omega) (by show P (m - (m - (k + 1))) (n - (n - (l + 1))); rw [Nat.sub_sub_self hk, Nat.sub_sub_self hl]; exact h)

theorem frD_way (s : Nat → Nat → Int) (e : Int) (he : 0 ≤ e) : ∀ n i j, i + j = n → (frD s i j ≤ e ↔ FrWay (fun a b => s a b ≤ e) 0 0 i j) := by
  intro n
  induction n using Nat.strongRecOn with
  | _ n ih =>
    intro i j hn
    match i, j with
    | 0, 0 =>
      simp only [frD]
      exact ⟨fun h => .one (by show s 0 0 ≤ e; omega), fun h => by have := h.end_.2.2; omega⟩
    | i + 1, 0 =>
      simp only [frD]
      have h1 := ih (i + 0) (by omega) i 0 rfl
      refine ⟨fun h => .down (h1.1 (by omega)) (by show s (i + 1) 0 ≤ e; omega), fun h => ?_⟩
      have h3 := h.end_.2.2
      cases h with
      | down w _ => have := h1.2 w; omega
    | 0, j + 1 =>
      simp only [frD]
      have h1 := ih (0 + j) (by omega) 0 j rfl
      refine ⟨fun h => .right (h1.1 (by omega)) (by show s 0 (j + 1) ≤ e; omega), fun h => ?_⟩
      have h3 := h.end_.2.2
      cases h with
      | right w _ => have := h1.2 w; omega
    | i + 1, j + 1 =>
      simp only [frD]
      have h1 := ih (i + j) (by omega) i j rfl; have h2 := ih (i + (j + 1)) (by omega) i (j + 1) rfl; have h3 := ih (i + 1 + j) (by omega) (i + 1) j rfl
      refine ⟨fun h => ?_, fun h => ?_⟩
      · have hs : s (i + 1) (j + 1) ≤ e := by omega
        by_cases c1 : frD s i j ≤ e
        · exact .both (h1.1 c1) hs
        · by_cases c2 : frD s i (j + 1) ≤ e
          · exact .down (h2.1 c2) hs
          · exact .right (h3.1 (by unfold mn3 at h; omega)) hs
      · have h4 := h.end_.2.2
        cases h with
        | down w _ => have := h2.2 w; unfold mn3; omega
        | right w _ => have := h3.2 w; unfold mn3; omega
        | both w _ => have := h1.2 w; unfold mn3; omega

/-- Backwards it is the same. -/
theorem frD_back (s : Nat → Nat → Int) (m n : Nat) : frD (fun a b => s (m - a) (n - b)) m n = frD s m n := by
  have key : ∀ (t : Nat → Nat → Int), frD (fun a b => t (m - a) (n - b)) m n ≤ frD t m n := fun t => by
    have h0 := frD_nonneg t _ m n rfl
    have h := (frD_way t _ h0 _ m n rfl).1 (Int.le_refl _)
    have h2 := h.back m n (Nat.le_refl _) (Nat.le_refl _)
    rw [Nat.sub_self, Nat.sub_self, Nat.sub_zero, Nat.sub_zero] at h2
    exact (frD_way _ _ h0 _ m n rfl).2 h2
  have h1 := key s
  have h2 := key (fun a b => s (m - a) (n - b))
  have e : frD (fun a b => (fun a b => s (m - a) (n - b)) (m - a) (n - b)) m n = frD s m n := by
    have q : ∀ k i j, i + j = k → i ≤ m → j ≤ n → frD (fun a b => (fun a b => s (m - a) (n - b)) (m - a) (n - b)) i j = frD s i j := by
      intro k
      induction k using Nat.strongRecOn with
      | _ k ih =>
        intro i j hk hi hj
        have es : s (m - (m - i)) (n - (n - j)) = s i j := by rw [Nat.sub_sub_self hi, Nat.sub_sub_self hj]
        match i, j with
        | 0, 0 => simp only [frD]; rw [es]
        | i + 1, 0 => simp only [frD] at *; rw [ih (i + 0) (by omega) i 0 rfl (by omega) hj, es]
        | 0, j + 1 => simp only [frD] at *; rw [ih (0 + j) (by omega) 0 j rfl hi (by omega), es]
        | i + 1, j + 1 =>
          simp only [frD] at *
          rw [ih (i + j) (by omega) i j rfl (by omega) (by omega), ih (i + (j + 1)) (by omega) i (j + 1) rfl (by omega) hj, ih (i + 1 + j) (by omega) (i + 1) j rfl hi (by omega), es]
    exact q _ m n rfl (Nat.le_refl _) (Nat.le_refl _)
  rw [e] at h2
  omega
end Go.Proofs.Ytnjanjbjhbniiaa
