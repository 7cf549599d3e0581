/- Places: as values, and rows of them in memory; what Apart returns, purely. -/
import Derived.Test.YtnjanjbjhbniiaaMRows
import Derived.Test.YtnjanjbjhbniiaaMFrP
namespace Go.Proofs.Ytnjanjbjhbniiaa
open Go.RowKit

structure Pt where
  x : Int
  y : Int
  deriving DecidableEq, Inhabited
def ptCs (p : Pt) : List Value := [.int .i64 p.x, .int .i64 p.y]
abbrev PtsAt (w : World) (ao : Option Addr) (l : List Pt) : Prop := RowsAt ptCs 2 w ao l
theorem pts_at {w : World} {ao : Option Addr} {l : List Pt} (h : PtsAt w ao l) (hl : 0 < l.length) : ∃ g o, ao = some ⟨g, o, none⟩ ∧ ∀ i (hi : i < l.length), w.cell? ⟨g, o + i * 2, none⟩ = some (.int .i64 l[i].x) ∧ w.cell? ⟨g, o + i * 2 + 1, none⟩ = some (.int .i64 l[i].y) := by
  obtain ⟨g, o, e, q⟩ := rows_at h hl
  exact ⟨g, o, e, fun i hi => ⟨q i hi 0 _ rfl, q i hi 1 _ rfl⟩⟩


abbrev Pt.val (p : Pt) : Value := .agg #[.int .i64 p.x, .int .i64 p.y]
def onP (p : Pt) : Prop := (-100000000 ≤ p.x ∧ p.x ≤ 100000000) ∧ (-100000000 ≤ p.y ∧ p.y ≤ 100000000)
instance (p : Pt) : Decidable (onP p) := by unfold onP; infer_instance
def onL : List Pt → Bool
  | [] => true
  | p :: r => decide (onP p) && onL r
theorem onL_iff {l : List Pt} : onL l = true ↔ ∀ p ∈ l, onP p := by
  induction l with
  | nil => simp [onL]
  | cons p r ih => unfold onL; rw [Bool.and_eq_true, ih]; simp
def ptD (l : List Pt) (i : Nat) : Pt := l.getD i ⟨0, 0⟩
theorem ptD_at {l : List Pt} {i : Nat} (h : i < l.length) : ptD l i = l[i] := by
  unfold ptD; rw [List.getD_eq_getElem?_getD, List.getElem?_eq_getElem h]; rfl
theorem ptD_on {l : List Pt} (h : ∀ p ∈ l, onP p) (i : Nat) : onP (ptD l i) := by
  unfold ptD
  rcases Nat.lt_or_ge i l.length with hi | hi
  · rw [List.getD_eq_getElem?_getD, List.getElem?_eq_getElem hi]; exact h _ (List.getElem_mem hi)
  · rw [List.getD_eq_getElem?_getD, List.getElem?_eq_none hi]
    simp only [Option.getD_none]; unfold onP; simp only; omega
def sqD (p q : Pt) : Int := (q.x - p.x) * (q.x - p.x) + (q.y - p.y) * (q.y - p.y)
theorem sq_bdM {a : Int} (h0 : -200000000 ≤ a) (h1 : a ≤ 200000000) : 0 ≤ a * a ∧ a * a ≤ 40000000000000000 := by
  rcases Int.le_total 0 a with h | h
  · exact ⟨Int.mul_nonneg h h, Int.le_trans (Int.mul_le_mul h1 h1 h (by omega)) (by omega)⟩
  · have e : a * a = (-a) * (-a) := by rw [Int.neg_mul_neg]
    rw [e]
    have hm : -a * -a ≤ 200000000 * 200000000 := Int.mul_le_mul (by omega) (by omega) (by omega) (by omega)
    exact ⟨Int.mul_nonneg (by omega) (by omega), hm⟩
theorem sqD_bd {p q : Pt} (h : onP p) (h' : onP q) : 0 ≤ sqD p q ∧ sqD p q ≤ 80000000000000000 := by
  unfold onP at h h'
  have h1 := sq_bdM (a := q.x - p.x) (by omega) (by omega)
  have h2 := sq_bdM (a := q.y - p.y) (by omega) (by omega)
  unfold sqD; omega
theorem sqD_turn (p q : Pt) : sqD q p = sqD p q := by
  unfold sqD
  rw [show p.x - q.x = -(q.x - p.x) by omega, show p.y - q.y = -(q.y - p.y) by omega, Int.neg_mul_neg, Int.neg_mul_neg]
theorem sqD_self (p : Pt) : sqD p p = 0 := by unfold sqD; simp

/-- What checkRoutes returns, and Apart. -/
def routeE (a b : List Pt) : Int := if a.length = 0 ∨ b.length = 0 then 13 else if 300 < a.length ∨ 300 < b.length then 3 else if onL a = true ∧ onL b = true then 0 else 9
def sqL (a b : List Pt) (i j : Nat) : Int := sqD (ptD a i) (ptD b j)
def apV (a b : List Pt) : Int := if routeE a b = 0 then frD (sqL a b) (a.length - 1) (b.length - 1) else 0
theorem frD_bd {s : Nat → Nat → Int} {m : Int} (hm : 0 ≤ m) (h : ∀ i j, s i j ≤ m) : ∀ n i j, i + j = n → frD s i j ≤ m := by
  intro n
  induction n using Nat.strongRecOn with
  | _ n ih =>
    intro i j hn
    match i, j with
    | 0, 0 => have := h 0 0; simp only [frD]; omega
    | i + 1, 0 => simp only [frD]; have := ih (i + 0) (by omega) i 0 rfl; have := h (i + 1) 0; omega
    | 0, j + 1 => simp only [frD]; have := ih (0 + j) (by omega) 0 j rfl; have := h 0 (j + 1); omega
    | i + 1, j + 1 =>
      simp only [frD]
      have h1 := ih (i + j) (by omega) i j rfl; have := h (i + 1) (j + 1)
      unfold mn3; omega
theorem routeE_turn (a b : List Pt) : routeE b a = routeE a b := by
  unfold routeE
  simp only [Or.comm (a := b.length = 0), Or.comm (a := 300 < b.length), And.comm (a := onL b = true)]
theorem apV_turn (a b : List Pt) : apV b a = apV a b := by
  unfold apV
  rw [routeE_turn]
  split
  · have e : sqL b a = fun i j => sqL a b j i := by funext i j; exact sqD_turn _ _
    rw [e]
    exact frD_turn (sqL a b) _ (a.length - 1) (b.length - 1) rfl
  · rfl
theorem ptD_rev {l : List Pt} {i : Nat} (h : i < l.length) : ptD l.reverse i = ptD l (l.length - 1 - i) := by
  rw [ptD_at (by simpa using h), ptD_at (by omega), List.getElem_reverse]
theorem onL_rev (l : List Pt) : onL l.reverse = onL l := by
  have : onL l.reverse = true ↔ onL l = true := by rw [onL_iff, onL_iff]; simp
  cases h1 : onL l.reverse <;> cases h2 : onL l <;> simp_all
theorem routeE_rev (a b : List Pt) : routeE a.reverse b.reverse = routeE a b := by
  unfold routeE
  simp only [List.length_reverse, onL_rev]
theorem frD_congr {s t : Nat → Nat → Int} {m n : Nat} (h : ∀ i j, i ≤ m → j ≤ n → s i j = t i j) : ∀ k i j, i + j = k → i ≤ m → j ≤ n → frD s i j = frD t i j := by
  intro k
  induction k using Nat.strongRecOn with
  | _ k ih =>
    intro i j hk hi hj
    have hs := h i j hi hj
    match i, j with
    | 0, 0 => simp only [frD]; rw [hs]
    | i + 1, 0 => simp only [frD] at *; rw [ih (i + 0) (by omega) i 0 rfl (by omega) hj, hs]
    | 0, j + 1 => simp only [frD] at *; rw [ih (0 + j) (by omega) 0 j rfl hi (by omega), hs]
    | i + 1, j + 1 =>
      simp only [frD] at *
      rw [ih (i + j) (by omega) i j rfl (by omega) (by omega), ih (i + (j + 1)) (by omega) i (j + 1) rfl (by omega) hj, ih (i + 1 + j) (by omega) (i + 1) j rfl hi (by omega), hs]
theorem apV_rev (a b : List Pt) : apV a.reverse b.reverse = apV a b := by
  unfold apV
  rw [routeE_rev]
  split
  · rename_i h
    unfold routeE at h
    have ha : 0 < a.length := by split at h <;> omega
    have hb : 0 < b.length := by split at h <;> omega
    rw [List.length_reverse, List.length_reverse]
    rw [← frD_back (sqL a b) (a.length - 1) (b.length - 1)]
    refine frD_congr (m := a.length - 1) (n := b.length - 1) (fun i j hi hj => ?_) _ _ _ rfl (Nat.le_refl _) (Nat.le_refl _)
    unfold sqL
    rw [ptD_rev (by omega), ptD_rev (by omega)]
  · rfl
theorem apV_self {a : List Pt} : apV a a = 0 := by
  unfold apV
  split
  · exact frD_self _ _ fun k _ => sqD_self _
  · rfl
theorem apV_ends {a b : List Pt} (h : routeE a b = 0) : sqL a b 0 0 ≤ apV a b ∧ sqL a b (a.length - 1) (b.length - 1) ≤ apV a b := by
  unfold apV
  rw [if_pos h]
  exact ⟨frD_first _ _ _ _ rfl, frD_last _ _ _⟩
end Go.Proofs.Ytnjanjbjhbniiaa
