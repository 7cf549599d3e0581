/- Texts that all laws of this seat use, one behind the other. -/
import Derived.Test.YtckelojdjmaliaaBaseA
import Derived.Test.YtckelojdjmaliaaProg
import Derived.Lib.SmallJoins
import Derived.Deep.Slices
import Derived.Deep.Fields
import Derived.ChangeSame
import Derived.SizedLaws
namespace Go.Proofs.Ytckelojdjmaliaa

def mn3 (a b c : Int) : Int := min (min a b) c
/-- The table: what need not be exceeded up to the places i and j. -/
def frD (s : Nat → Nat → Int) : Nat → Nat → Int
  | 0, 0 => max 0 (s 0 0)
  | i + 1, 0 => max (frD s i 0) (s (i + 1) 0)
  | 0, j + 1 => max (frD s 0 j) (s 0 (j + 1))
  | i + 1, j + 1 => max (mn3 (frD s i j) (frD s i (j + 1)) (frD s (i + 1) j)) (s (i + 1) (j + 1))

theorem frD_turn (s : Nat → Nat → Int) : ∀ n i j, i + j = n → frD (fun a b => s b a) j i = frD s i j := by
  intro n
  induction n using Nat.strongRecOn with
  | _ n ih =>
    intro i j hn
    match i, j with
    | 0, 0 => simp [frD]
    | i + 1, 0 => simp only [frD]; rw [ih (i + 0) (by omega) i 0 rfl]
    | 0, j + 1 => simp only [frD]; rw [ih (0 + j) (by omega) 0 j rfl]
    | i + 1, j + 1 =>
      simp only [frD]
      rw [ih (i + j) (by omega) i j rfl, ih (i + (j + 1)) (by omega) i (j + 1) rfl, ih (i + 1 + j) (by omega) (i + 1) j rfl]
      unfold mn3
      congr 1; omega

theorem frD_nonneg (s : Nat → Nat → Int) : ∀ n i j, i + j = n → 0 ≤ frD s i j := by
  intro n
  induction n using Nat.strongRecOn with
  | _ n ih =>
    intro i j hn
    match i, j with
    | 0, 0 => simp only [frD]; omega
    | i + 1, 0 => simp only [frD]; have := ih (i + 0) (by omega) i 0 rfl; omega
    | 0, j + 1 => simp only [frD]; have := ih (0 + j) (by omega) 0 j rfl; omega
    | i + 1, j + 1 =>
      simp only [frD]
      have h1 := ih (i + j) (by omega) i j rfl; have h2 := ih (i + (j + 1)) (by omega) i (j + 1) rfl; have h3 := ih (i + 1 + j) (by omega) (i + 1) j rfl
      unfold mn3; omega

theorem frD_first (s : Nat → Nat → Int) : ∀ n i j, i + j = n → s 0 0 ≤ frD s i j := by
  intro n
  induction n using Nat.strongRecOn with
  | _ n ih =>
    intro i j hn
    match i, j with
    | 0, 0 => simp only [frD]; omega
    | i + 1, 0 => simp only [frD]; have := ih (i + 0) (by omega) i 0 rfl; omega
    | 0, j + 1 => simp only [frD]; have := ih (0 + j) (by omega) 0 j rfl; omega
    | i + 1, j + 1 =>
      simp only [frD]
      have h1 := ih (i + j) (by omega) i j rfl; have h2 := ih (i + (j + 1)) (by omega) i (j + 1) rfl; have h3 := ih (i + 1 + j) (by omega) (i + 1) j rfl
      unfold mn3; omega

theorem frD_last (s : Nat → Nat → Int) (i j : Nat) : s i j ≤ frD s i j := by
  match i, j with
  | 0, 0 => simp only [frD]; omega
  | i + 1, 0 => simp only [frD]; omega
  | 0, j + 1 => simp only [frD]; omega
  | i + 1, j + 1 => simp only [frD]; omega

theorem frD_self (s : Nat → Nat → Int) : ∀ i, (∀ k, k ≤ i → s k k = 0) → frD s i i = 0
  | 0, hs => by simp only [frD]; rw [hs 0 (Nat.le_refl _)]; rfl
  | i + 1, hs => by
    have h := frD_self s i fun k hk => hs k (by omega)
    have h2 := frD_nonneg s _ i (i + 1) rfl; have h3 := frD_nonneg s _ (i + 1) i rfl
    simp only [frD]
    rw [h, hs (i + 1) (Nat.le_refl _)]
    unfold mn3; omega

/-- A way through the table, on places that are well. -/
inductive FrWay (P : Nat → Nat → Prop) : Nat → Nat → Nat → Nat → Prop
  | one {i j : Nat} (h : P i j) : FrWay P i j i j
  | down {i j k l : Nat} (w : FrWay P i j k l) (h : P (k + 1) l) : FrWay P i j (k + 1) l
  | right {i j k l : Nat} (w : FrWay P i j k l) (h : P k (l + 1)) : FrWay P i j k (l + 1)
  | both {i j k l : Nat} (w : FrWay P i j k l) (h : P (k + 1) (l + 1)) : FrWay P i j (k + 1) (l + 1)

theorem FrWay.pre {P : Nat → Nat → Prop} {i j k l : Nat} (w : FrWay P i j k l) :
    (∀ i', i = i' + 1 → P i' j → FrWay P i' j k l) ∧ (∀ j', j = j' + 1 → P i j' → FrWay P i j' k l) ∧ (∀ i' j', i = i' + 1 → j = j' + 1 → P i' j' → FrWay P i' j' k l) := by
  induction w with
  | one h => exact ⟨fun i' e p => by subst e; exact .down (.one p) h, fun j' e p => by subst e; exact .right (.one p) h, fun i' j' e e2 p => by subst e; subst e2; exact .both (.one p) h⟩
  | down w h ih => exact ⟨fun i' e p => .down (ih.1 i' e p) h, fun j' e p => .down (ih.2.1 j' e p) h, fun i' j' e e2 p => .down (ih.2.2 i' j' e e2 p) h⟩
  | right w h ih => exact ⟨fun i' e p => .right (ih.1 i' e p) h, fun j' e p => .right (ih.2.1 j' e p) h, fun i' j' e e2 p => .right (ih.2.2 i' j' e e2 p) h⟩
  | both w h ih => exact ⟨fun i' e p => .both (ih.1 i' e p) h, fun j' e p => .both (ih.2.1 j' e p) h, fun i' j' e e2 p => .both (ih.2.2 i' j' e e2 p) h⟩

theorem FrWay.end_ {P : Nat → Nat → Prop} {i j k l : Nat} (w : FrWay P i j k l) : i ≤ k ∧ j ≤ l ∧ P k l := by
  induction w with
  | one h => exact ⟨Nat.le_refl _, Nat.le_refl _, h⟩
  | down w h ih => exact ⟨by omega, ih.2.1, h⟩
  | right w h ih => exact ⟨ih.1, by omega, h⟩
  | both w h ih => exact ⟨by omega, by omega, h⟩

theorem FrWay.back {P : Nat → Nat → Prop} (m n : Nat) {i j k l : Nat} (w : FrWay P i j k l) (hk : k ≤ m) (hl : l ≤ n) :
    FrWay (fun a b => P (m - a) (n - b)) (m - k) (n - l) (m - i) (n - j) := by
  induction w with
  | one h => exact .one (by show P (m - (m - _)) (n - (n - _)); rw [Nat.sub_sub_self hk, Nat.sub_sub_self hl]; exact h)
  | @down k l w h ih => exact (ih (by omega) hl).pre.1 _ (by omega) (by show P (m - (m - (k + 1))) (n - (n - l)); rw [Nat.sub_sub_self hk, Nat.sub_sub_self hl]; exact h)
  | @right k l w h ih => exact (ih hk (by omega)).pre.2.1 _ (by omega) (by show P (m - (m - k)) (n - (n - (l + 1))); rw [Nat.sub_sub_self hk, Nat.sub_sub_self hl]; exact h)
  | @both k l w h ih => exact (ih (by omega) (by omega)).pre.2.2 _ _ (by omega) (by omega) (by show P (m - (m - (k + 1))) (n - (n - (l + 1))); rw [Nat.sub_sub_self hk, Nat.sub_sub_self hl]; exact h)

theorem frD_way (s : Nat → Nat → Int) (e : Int) (he : 0 ≤ e) : ∀ n i j, i + j = n → (frD s i j ≤ e ↔ FrWay (fun a b => s a b ≤ e) 0 0 i j) := by
  intro n
  induction n using Nat.strongRecOn with
  | _ n ih =>
    intro i j hn
    match i, j with
    | 0, 0 =>
      simp only [frD]
      exact ⟨fun h => .one (by show s 0 0 ≤ e; omega), fun h => by have := h.end_.2.2; omega⟩
    | i + 1, 0 =>
      simp only [frD]
      have h1 := ih (i + 0) (by omega) i 0 rfl
      refine ⟨fun h => .down (h1.1 (by omega)) (by show s (i + 1) 0 ≤ e; omega), fun h => ?_⟩
      have h3 := h.end_.2.2
      cases h with
      | down w _ => have := h1.2 w; omega
    | 0, j + 1 =>
      simp only [frD]
      have h1 := ih (0 + j) (by omega) 0 j rfl
      refine ⟨fun h => .right (h1.1 (by omega)) (by show s 0 (j + 1) ≤ e; omega), fun h => ?_⟩
      have h3 := h.end_.2.2
      cases h with
      | right w _ => have := h1.2 w; omega
    | i + 1, j + 1 =>
      simp only [frD]
      have h1 := ih (i + j) (by omega) i j rfl; have h2 := ih (i + (j + 1)) (by omega) i (j + 1) rfl; have h3 := ih (i + 1 + j) (by omega) (i + 1) j rfl
      refine ⟨fun h => ?_, fun h => ?_⟩
      · have hs : s (i + 1) (j + 1) ≤ e := by omega
        by_cases c1 : frD s i j ≤ e
        · exact .both (h1.1 c1) hs
        · by_cases c2 : frD s i (j + 1) ≤ e
          · exact .down (h2.1 c2) hs
          · exact .right (h3.1 (by unfold mn3 at h; omega)) hs
      · have h4 := h.end_.2.2
        cases h with
        | down w _ => have := h2.2 w; unfold mn3; omega
        | right w _ => have := h3.2 w; unfold mn3; omega
        | both w _ => have := h1.2 w; unfold mn3; omega

/-- Backwards it is the same. -/
theorem frD_back (s : Nat → Nat → Int) (m n : Nat) : frD (fun a b => s (m - a) (n - b)) m n = frD s m n := by
  have key : ∀ (t : Nat → Nat → Int), frD (fun a b => t (m - a) (n - b)) m n ≤ frD t m n := fun t => by
    have h0 := frD_nonneg t _ m n rfl
    have h := (frD_way t _ h0 _ m n rfl).1 (Int.le_refl _)
    have h2 := h.back m n (Nat.le_refl _) (Nat.le_refl _)
    rw [Nat.sub_self, Nat.sub_self, Nat.sub_zero, Nat.sub_zero] at h2
    exact (frD_way _ _ h0 _ m n rfl).2 h2
  have h1 := key s
  have h2 := key (fun a b => s (m - a) (n - b))
  have e : frD (fun a b => (fun a b => s (m - a) (n - b)) (m - a) (n - b)) m n = frD s m n := by
    have q : ∀ k i j, i + j = k → i ≤ m → j ≤ n → frD (fun a b => (fun a b => s (m - a) (n - b)) (m - a) (n - b)) i j = frD s i j := by
      intro k
      induction k using Nat.strongRecOn with
      | _ k ih =>
        intro i j hk hi hj
        have es : s (m - (m - i)) (n - (n - j)) = s i j := by rw [Nat.sub_sub_self hi, Nat.sub_sub_self hj]
        match i, j with
        | 0, 0 => simp only [frD]; rw [es]
        | i + 1, 0 => simp only [frD] at *; rw [ih (i + 0) (by omega) i 0 rfl (by omega) hj, es]
        | 0, j + 1 => simp only [frD] at *; rw [ih (0 + j) (by omega) 0 j rfl hi (by omega), es]
        | i + 1, j + 1 =>
          simp only [frD] at *
          rw [ih (i + j) (by omega) i j rfl (by omega) (by omega), ih (i + (j + 1)) (by omega) i (j + 1) rfl (by omega) hj, ih (i + 1 + j) (by omega) (i + 1) j rfl hi (by omega), es]
    exact q _ m n rfl (Nat.le_refl _) (Nat.le_refl _)
  rw [e] at h2
  omega
end Go.Proofs.Ytckelojdjmaliaa
namespace Go.Proofs.Ytckelojdjmaliaa
open Go.RowKit

structure Pt where
  x : Int
  y : Int
  deriving DecidableEq, Inhabited
def ptCs (p : Pt) : List Value := [.int .i64 p.x, .int .i64 p.y]
abbrev PtsAt (w : World) (ao : Option Addr) (l : List Pt) : Prop := RowsAt ptCs 2 w ao l
theorem pts_at {w : World} {ao : Option Addr} {l : List Pt} (h : PtsAt w ao l) (hl : 0 < l.length) : ∃ g o, ao = some ⟨g, o, none⟩ ∧ ∀ i (hi : i < l.length), w.cell? ⟨g, o + i * 2, none⟩ = some (.int .i64 l[i].x) ∧ w.cell? ⟨g, o + i * 2 + 1, none⟩ = some (.int .i64 l[i].y) := by
  obtain ⟨g, o, e, q⟩ := rows_at h hl
  exact ⟨g, o, e, fun i hi => ⟨q i hi 0 _ rfl, q i hi 1 _ rfl⟩⟩


abbrev Pt.val (p : Pt) : Value := .agg #[.int .i64 p.x, .int .i64 p.y]
def onP (p : Pt) : Prop := (-100000000 ≤ p.x ∧ p.x ≤ 100000000) ∧ (-100000000 ≤ p.y ∧ p.y ≤ 100000000)
instance (p : Pt) : Decidable (onP p) := by unfold onP; infer_instance
def onL : List Pt → Bool
  | [] => true
  | p :: r => decide (onP p) && onL r
theorem onL_iff {l : List Pt} : onL l = true ↔ ∀ p ∈ l, onP p := by
  induction l with
  | nil => simp [onL]
  | cons p r ih => unfold onL; rw [Bool.and_eq_true, ih]; simp
def ptD (l : List Pt) (i : Nat) : Pt := l.getD i ⟨0, 0⟩
theorem ptD_at {l : List Pt} {i : Nat} (h : i < l.length) : ptD l i = l[i] := by
  unfold ptD; rw [List.getD_eq_getElem?_getD, List.getElem?_eq_getElem h]; rfl
theorem ptD_on {l : List Pt} (h : ∀ p ∈ l, onP p) (i : Nat) : onP (ptD l i) := by
  unfold ptD
  rcases Nat.lt_or_ge i l.length with hi | hi
  · rw [List.getD_eq_getElem?_getD, List.getElem?_eq_getElem hi]; exact h _ (List.getElem_mem hi)
  · rw [List.getD_eq_getElem?_getD, List.getElem?_eq_none hi]
    simp only [Option.getD_none]; unfold onP; simp only; omega
def sqD (p q : Pt) : Int := (q.x - p.x) * (q.x - p.x) + (q.y - p.y) * (q.y - p.y)
theorem sq_bdM {a : Int} (h0 : -200000000 ≤ a) (h1 : a ≤ 200000000) : 0 ≤ a * a ∧ a * a ≤ 40000000000000000 := by
  rcases Int.le_total 0 a with h | h
  · exact ⟨Int.mul_nonneg h h, Int.le_trans (Int.mul_le_mul h1 h1 h (by omega)) (by omega)⟩
  · have e : a * a = (-a) * (-a) := by rw [Int.neg_mul_neg]
    rw [e]
    have hm : -a * -a ≤ 200000000 * 200000000 := Int.mul_le_mul (by omega) (by omega) (by omega) (by omega)
    exact ⟨Int.mul_nonneg (by omega) (by omega), hm⟩
theorem sqD_bd {p q : Pt} (h : onP p) (h' : onP q) : 0 ≤ sqD p q ∧ sqD p q ≤ 80000000000000000 := by
  unfold onP at h h'
  have h1 := sq_bdM (a := q.x - p.x) (by omega) (by omega)
  have h2 := sq_bdM (a := q.y - p.y) (by omega) (by omega)
  unfold sqD; omega
theorem sqD_turn (p q : Pt) : sqD q p = sqD p q := by
  unfold sqD
  rw [show p.x - q.x = -(q.x - p.x) by omega, show p.y - q.y = -(q.y - p.y) by omega, Int.neg_mul_neg, Int.neg_mul_neg]
theorem sqD_self (p : Pt) : sqD p p = 0 := by unfold sqD; simp

/-- What checkRoutes returns, and Apart. -/
def routeE (a b : List Pt) : Int := if a.length = 0 ∨ b.length = 0 then 13 else if 300 < a.length ∨ 300 < b.length then 3 else if onL a = true ∧ onL b = true then 0 else 9
def sqL (a b : List Pt) (i j : Nat) : Int := sqD (ptD a i) (ptD b j)
def apV (a b : List Pt) : Int := if routeE a b = 0 then frD (sqL a b) (a.length - 1) (b.length - 1) else 0
theorem frD_bd {s : Nat → Nat → Int} {m : Int} (hm : 0 ≤ m) (h : ∀ i j, s i j ≤ m) : ∀ n i j, i + j = n → frD s i j ≤ m := by
  intro n
  induction n using Nat.strongRecOn with
  | _ n ih =>
    intro i j hn
    match i, j with
    | 0, 0 => have := h 0 0; simp only [frD]; omega
    | i + 1, 0 => simp only [frD]; have := ih (i + 0) (by omega) i 0 rfl; have := h (i + 1) 0; omega
    | 0, j + 1 => simp only [frD]; have := ih (0 + j) (by omega) 0 j rfl; have := h 0 (j + 1); omega
    | i + 1, j + 1 =>
      simp only [frD]
      have h1 := ih (i + j) (by omega) i j rfl; have := h (i + 1) (j + 1)
      unfold mn3; omega
theorem routeE_turn (a b : List Pt) : routeE b a = routeE a b := by
  unfold routeE
  simp only [Or.comm (a := b.length = 0), Or.comm (a := 300 < b.length), And.comm (a := onL b = true)]
theorem apV_turn (a b : List Pt) : apV b a = apV a b := by
  unfold apV
  rw [routeE_turn]
  split
  · have e : sqL b a = fun i j => sqL a b j i := by funext i j; exact sqD_turn _ _
    rw [e]
    exact frD_turn (sqL a b) _ (a.length - 1) (b.length - 1) rfl
  · rfl
theorem ptD_rev {l : List Pt} {i : Nat} (h : i < l.length) : ptD l.reverse i = ptD l (l.length - 1 - i) := by
  rw [ptD_at (by simpa using h), ptD_at (by omega), List.getElem_reverse]
theorem onL_rev (l : List Pt) : onL l.reverse = onL l := by
  have : onL l.reverse = true ↔ onL l = true := by rw [onL_iff, onL_iff]; simp
  cases h1 : onL l.reverse <;> cases h2 : onL l <;> simp_all
theorem routeE_rev (a b : List Pt) : routeE a.reverse b.reverse = routeE a b := by
  unfold routeE
  simp only [List.length_reverse, onL_rev]
theorem frD_congr {s t : Nat → Nat → Int} {m n : Nat} (h : ∀ i j, i ≤ m → j ≤ n → s i j = t i j) : ∀ k i j, i + j = k → i ≤ m → j ≤ n → frD s i j = frD t i j := by
  intro k
  induction k using Nat.strongRecOn with
  | _ k ih =>
    intro i j hk hi hj
    have hs := h i j hi hj
    match i, j with
    | 0, 0 => simp only [frD]; rw [hs]
    | i + 1, 0 => simp only [frD] at *; rw [ih (i + 0) (by omega) i 0 rfl (by omega) hj, hs]
    | 0, j + 1 => simp only [frD] at *; rw [ih (0 + j) (by omega) 0 j rfl hi (by omega), hs]
    | i + 1, j + 1 =>
      simp only [frD] at *
      rw [ih (i + j) (by omega) i j rfl (by omega) (by omega), ih (i + (j + 1)) (by omega) i (j + 1) rfl (by omega) hj, ih (i + 1 + j) (by omega) (i + 1) j rfl hi (by omega), hs]
theorem apV_rev (a b : List Pt) : apV a.reverse b.reverse = apV a b := by
  unfold apV
  rw [routeE_rev]
  split
  · rename_i h
    unfold routeE at h
    have ha : 0 < a.length := by split at h <;> omega
    have hb : 0 < b.length := by split at h <;> omega
    rw [List.length_reverse, List.length_reverse]
    rw [← frD_back (sqL a b) (a.length - 1) (b.length - 1)]
    refine frD_congr (m := a.length - 1) (n := b.length - 1) (fun i j hi hj => ?_) _ _ _ rfl (Nat.le_refl _) (Nat.le_refl _)
    unfold sqL
    rw [ptD_rev (by omega), ptD_rev (by omega)]
  · rfl
theorem apV_self {a : List Pt} : apV a a = 0 := by
  unfold apV
  split
  · exact frD_self _ _ fun k _ => sqD_self _
  · rfl
theorem apV_ends {a b : List Pt} (h : routeE a b = 0) : sqL a b 0 0 ≤ apV a b ∧ sqL a b (a.length - 1) (b.length - 1) ≤ apV a b := by
  unfold apV
  rw [if_pos h]
  exact ⟨frD_first _ _ _ _ rfl, frD_last _ _ _⟩
end Go.Proofs.Ytckelojdjmaliaa
namespace Go.Proofs.Ytckelojdjmaliaa
open Go.RowKit

structure Gt where
  ax : Int
  ay : Int
  bx : Int
  by_ : Int
  deriving DecidableEq, Inhabited
def inPl (x y : Int) : Prop := (-100000000 ≤ x ∧ x ≤ 100000000) ∧ (-100000000 ≤ y ∧ y ≤ 100000000)
instance (x y : Int) : Decidable (inPl x y) := by unfold inPl; infer_instance
def gate1 (g : Gt) : Int := if inPl g.ax g.ay ∧ inPl g.bx g.by_ then if g.ax = g.bx ∧ g.ay = g.by_ then 2 else 0 else 9
def gatesE : List Gt → Int
  | [] => 0
  | g :: r => if gate1 g = 0 then gatesE r else gate1 g
def segE (nm : ByteArray) (gs : List Gt) : Int := if nameB nm = true then if 2 ≤ gs.length ∧ gs.length ≤ 50 then gatesE gs else 3 else 8
def gtTurn (g : Gt) : Gt := ⟨g.bx, g.by_, g.ax, g.ay⟩
theorem gtTurn_turn (g : Gt) : gtTurn (gtTurn g) = g := rfl
theorem gate1_turn (g : Gt) : gate1 (gtTurn g) = gate1 g := by
  unfold gate1 gtTurn
  simp only
  by_cases h : inPl g.ax g.ay ∧ inPl g.bx g.by_
  · rw [if_pos h, if_pos ⟨h.2, h.1⟩]
    by_cases e : g.ax = g.bx ∧ g.ay = g.by_
    · rw [if_pos e, if_pos ⟨e.1.symm, e.2.symm⟩]
    · rw [if_neg e, if_neg (fun q => e ⟨q.1.symm, q.2.symm⟩)]
  · rw [if_neg h, if_neg (fun q => h ⟨q.2, q.1⟩)]
theorem gatesE_zero {l : List Gt} : gatesE l = 0 ↔ ∀ g ∈ l, gate1 g = 0 := by
  induction l with
  | nil => simp [gatesE]
  | cons g r ih =>
    unfold gatesE
    by_cases h : gate1 g = 0
    · rw [if_pos h, ih]; simp [h]
    · rw [if_neg h]; simp [h]
def turnG (l : List Gt) : List Gt := (l.map gtTurn).reverse
theorem turnG_turn (l : List Gt) : turnG (turnG l) = l := by
  unfold turnG
  rw [List.map_reverse, List.reverse_reverse, List.map_map]
  exact (List.map_congr_left (g := id) fun g _ => gtTurn_turn g).trans (List.map_id _)
theorem turnG_len (l : List Gt) : (turnG l).length = l.length := by unfold turnG; simp
theorem segE_turn {nm : ByteArray} {gs : List Gt} (h : segE nm gs = 0) : segE nm (turnG gs) = 0 := by
  unfold segE at *
  rw [turnG_len]
  split at h
  · rename_i h1
    rw [if_pos h1]
    split at h
    · rename_i h2
      rw [if_pos h2, gatesE_zero]
      intro g hg
      unfold turnG at hg
      rw [List.mem_reverse] at hg
      obtain ⟨x, hx, rfl⟩ := List.mem_map.1 hg
      rw [gate1_turn]
      exact gatesE_zero.1 h x hx
    · omega
  · omega
theorem gate1_in {g : Gt} (h : gate1 g = 0) : inPl g.ax g.ay ∧ inPl g.bx g.by_ := by
  unfold gate1 at h
  split at h
  · assumption
  · omega

def gtCs (g : Gt) : List Value := [.int .i64 g.ax, .int .i64 g.ay, .int .i64 g.bx, .int .i64 g.by_]
abbrev GatesAt (w : World) (ao : Option Addr) (l : List Gt) : Prop := RowsAt gtCs 4 w ao l
theorem gates_at {w : World} {ao : Option Addr} {l : List Gt} (h : GatesAt w ao l) (hl : 0 < l.length) : ∃ g o, ao = some ⟨g, o, none⟩ ∧ ∀ i (hi : i < l.length), w.cell? ⟨g, o + i * 4, none⟩ = some (.int .i64 l[i].ax) ∧ w.cell? ⟨g, o + i * 4 + 1, none⟩ = some (.int .i64 l[i].ay) ∧ w.cell? ⟨g, o + i * 4 + 2, none⟩ = some (.int .i64 l[i].bx) ∧ w.cell? ⟨g, o + i * 4 + 3, none⟩ = some (.int .i64 l[i].by_) := by
  obtain ⟨g, o, e, q⟩ := rows_at h hl
  exact ⟨g, o, e, fun i hi => ⟨q i hi 0 _ rfl, q i hi 1 _ rfl, q i hi 2 _ rfl, q i hi 3 _ rfl⟩⟩
def gtRw (l : List Gt) : List Value := l.flatMap gtCs
theorem gtRw_snoc (l : List Gt) (x : Gt) : gtRw (l ++ [x]) = gtRw l ++ gtCs x := by unfold gtRw; simp
end Go.Proofs.Ytckelojdjmaliaa
namespace Go.Proofs.Ytckelojdjmaliaa
open Go.Joins Go.ChangeShapes Go.WideShapes Go.RowKit Go.Deep

theorem addr_plus {a : Addr} (h : a.spot = none) (n : Nat) : a.add n = ⟨a.block, a.off + n, none⟩ := by
  obtain ⟨b, o, s⟩ := a
  simp only at h
  subst h
  unfold Addr.add
  split
  · rename_i h; subst h; rfl
  · rfl

theorem cells_smp : Try.prog.cellsOf 79 = 7 := by kernel_rfl
theorem cells_lap : Try.prog.cellsOf 135 = 3 := by kernel_rfl
theorem cells_act : Try.prog.cellsOf 36 = 6 := by kernel_rfl
theorem cells_str : Try.prog.cellsOf 9 = 1 := by kernel_rfl

section
variable {H : Type} {enc : TypeId × Value → H} {w : World} {base : Nat} {spare : Nat → Bool} {held : Bool} {P : Program}

theorem weights_all {e : TypeId} {d : DataW H} {n : Nat} (hn : n ∈ d.weights P e) : ∀ {ds : List (DataW H)}, d ∈ ds → n ∈ DataW.weightsAll P e ds
  | d0 :: r, h => by
    rcases List.mem_cons.1 h with rfl | h
    · simp only [DataW.weightsAll, List.mem_append]; exact .inl hn
    · simp only [DataW.weightsAll, List.mem_append]; exact .inr (weights_all hn h)

theorem weights_agg {t : TypeId} {fs : Array Field} (hs : P.underlying t = some (.struct fs)) {ys : List (DataW H × List MemPlace)} {j : Nat} {f : Field} {y : DataW H × List MemPlace} (hf : fs[j]? = some f) (hy : ys[j]? = some y) :
    ∀ n ∈ y.1.weights P f.type, n ∈ (DataW.agg (ys.map (·.1))).weights P t := fun n hn => by
  simp only [DataW.weights, hs]
  exact DataW.weights_mem_each (j := j) (t := f.type) (d := y.1) (by rw [List.getElem?_map, Array.getElem?_toList, hf]; rfl) (by rw [List.getElem?_map, hy]; rfl) n hn

theorem weights_slice {t e : TypeId} (hs : P.underlying t = some (.slice e)) {els sp : List (DataW H)} {d : DataW H} (hd : d ∈ els) :
    ∀ n ∈ d.weights P e, n ∈ (DataW.slice els sp).weights P t := fun n hn => by
  simp only [DataW.weights, hs, List.mem_cons, List.mem_append]
  exact .inr (.inl (weights_all hn hd))

/-- The fields of a struct of one-cell fields that was read. -/
theorem fields_in {e : TypeId} {fs : Array Field} {n : Nat} {cs : List Value} {x : DataW H × List MemPlace} (he : P.underlying e = some (.struct fs)) (hone : oneCellFields P fs = true) (hC : P.cellsOf e = fs.size)
    (h : DataW.trod enc P w base spare held n e cs = some x) :
    ∃ (ys : List (DataW H × List MemPlace)) (n' : Nat), x.1 = .agg (ys.map (·.1)) ∧ cs.length = fs.size ∧
      ∀ (j : Nat) (f : Field), fs[j]? = some f → ∃ (v : Value) (y : DataW H × List MemPlace), cs[j]? = some v ∧ ys[j]? = some y ∧ DataW.trod enc P w base spare held n' f.type [v] = some y := by
  obtain ⟨ys, n', _, hx, hlen, hyl, hf⟩ := DataW.trod_struct he h
  rw [hC] at hlen
  refine ⟨ys, n', by rw [hx], hlen, fun j f hj => ?_⟩
  obtain ⟨ho, hk⟩ := hone_of hone j f hj
  have hjl : j < fs.size := (Array.getElem?_eq_some_iff.1 hj).1
  have h1 := hf j f hj
  have hys : ys[j]? = some (ys[j]'(by omega)) := List.getElem?_eq_getElem (by omega)
  have ht : (cs.drop f.offset).take (P.cellsOf f.type) = [cs[j]'(by omega)] := by
    rw [ho, hk, List.drop_eq_getElem_cons (by omega)]; rfl
  rw [ht] at h1
  exact ⟨_, _, List.getElem?_eq_getElem (by omega), hys, h1.trans hys⟩

/-- One field: its cell. -/
theorem field_in {e : TypeId} {fs : Array Field} {n : Nat} {a : Addr} {cs : List Value} {x : DataW H × List MemPlace} (he : P.underlying e = some (.struct fs)) (hone : oneCellFields P fs = true) (hC : P.cellsOf e = fs.size)
    (hc : w.cells? base a (P.cellsOf e) = some cs) (h : DataW.trod enc P w base spare held n e cs = some x) :
    ∃ (ys : List (DataW H × List MemPlace)) (n' : Nat), x.1 = .agg (ys.map (·.1)) ∧
      ∀ (j : Nat) (f : Field), fs[j]? = some f → ∃ (v : Value) (y : DataW H × List MemPlace), w.cell? (a.add j) = some v ∧ ys[j]? = some y ∧ DataW.trod enc P w base spare held n' f.type [v] = some y := by
  obtain ⟨ys, n', hx, hlen, hf⟩ := fields_in he hone hC h
  obtain ⟨_, _, hat⟩ := World.cells?_some hc
  refine ⟨ys, n', hx, fun j f hj => ?_⟩
  obtain ⟨v, y, hv, hy, ht⟩ := hf j f hj
  have hjl : j < fs.size := (Array.getElem?_eq_some_iff.1 hj).1
  exact ⟨v, y, by rw [hat j (by omega), hv], hy, ht⟩

/-- A number's field. -/
theorem int_in {n : Nat} {v : Value} {y : DataW H × List MemPlace} (h : DataW.trod enc Try.prog w base spare held n 3 [v] = some y) : ∃ z : Int, v = .int .i64 z := by
  obtain ⟨z, hz, _, _⟩ := DataW.trod_int Try.underlying3 h
  simp only [List.cons.injEq, and_true] at hz
  exact ⟨z, hz⟩

/-- A string's field. -/
theorem str_in {n : Nat} {v : Value} {y : DataW H × List MemPlace} (h : DataW.trod enc Try.prog w base spare held n 9 [v] = some y) (hz : ∀ m ∈ y.1.weights Try.prog 9, m ≤ reachBytes) : ∃ s : ByteArray, v = .string s ∧ s.size ≤ 140737488355328 := by
  obtain ⟨s, hs, rfl, _⟩ := DataW.trod_string Try.underlying9 h
  simp only [List.cons.injEq, and_true] at hs
  refine ⟨s, hs, ?_⟩
  have := hz s.data.toList.length (by simp [DataW.weights])
  rw [Array.length_toList] at this
  exact Nat.le_trans this (by decide)

theorem samples_in {fuel : Nat} {v : Value} {y : DataW H × List MemPlace} (h : DataW.trod enc Try.prog w base spare held fuel 32 [v] = some y) :
    ∃ (ao : Option Addr) (cap : Nat) (l : List Smp), v = .slice ao l.length cap ∧ l.length ≤ cap ∧ (cap : Int) ≤ 9223372036854775807 ∧ SmpsAt w ao l := by
  rcases open_slice Try.underlying32 h with ⟨hcs, _⟩ | ⟨a, len, cap, m, n', D, Pl, hcs, hb, hl, hm, hmm, hx, hi⟩
  · simp only [List.cons.injEq, and_true] at hcs
    exact ⟨none, 0, [], hcs, Nat.le_refl _, by simp, ⟨fun _ => rfl, fun a h => by simp at h, fun a h => by simp at h⟩⟩
  · simp only [List.cons.injEq, and_true] at hcs
    subst hcs
    have hlm : len ≤ m := by rw [hmm]; split <;> omega
    have hall : ∀ i, ∃ q : Smp, i < len → w.cell? ((a.add (i * 7)).add 0) = some (.int .i64 q.t) ∧ w.cell? ((a.add (i * 7)).add 1) = some (.int .i64 q.x) ∧ w.cell? ((a.add (i * 7)).add 2) = some (.int .i64 q.y) ∧ w.cell? ((a.add (i * 7)).add 3) = some (.int .i64 q.z) ∧ w.cell? ((a.add (i * 7)).add 4) = some (.int .i64 q.p) ∧ w.cell? ((a.add (i * 7)).add 5) = some (.int .i64 q.q) ∧ w.cell? ((a.add (i * 7)).add 6) = some (.int .i64 q.s) := fun i => by
      by_cases h : i < len
      · obtain ⟨cs', hc, ht⟩ := hi i (by omega)
        obtain ⟨ys, n2, _, hf⟩ := field_in Try.underlying79 (by kernel_rfl) (by kernel_rfl) hc ht
        rw [cells_smp] at hf
        obtain ⟨v0, y0, c0, _, t0⟩ := hf 0 _ rfl
        obtain ⟨v1, y1, c1, _, t1⟩ := hf 1 _ rfl
        obtain ⟨v2, y2, c2, _, t2⟩ := hf 2 _ rfl
        obtain ⟨v3, y3, c3, _, t3⟩ := hf 3 _ rfl
        obtain ⟨v4, y4, c4, _, t4⟩ := hf 4 _ rfl
        obtain ⟨v5, y5, c5, _, t5⟩ := hf 5 _ rfl
        obtain ⟨v6, y6, c6, _, t6⟩ := hf 6 _ rfl
        obtain ⟨z0, rfl⟩ := int_in t0
        obtain ⟨z1, rfl⟩ := int_in t1
        obtain ⟨z2, rfl⟩ := int_in t2
        obtain ⟨z3, rfl⟩ := int_in t3
        obtain ⟨z4, rfl⟩ := int_in t4
        obtain ⟨z5, rfl⟩ := int_in t5
        obtain ⟨z6, rfl⟩ := int_in t6
        exact ⟨⟨z0, z1, z2, z3, z4, z5, z6⟩, fun _ => ⟨c0, c1, c2, c3, c4, c5, c6⟩⟩
      · exact ⟨⟨0, 0, 0, 0, 0, 0, 0⟩, fun h' => absurd h' h⟩
    obtain ⟨F, hF⟩ := Classical.skolem.1 hall
    have hsp : 0 < len → a.spot = none := fun h => by
      have := (hF 0 h).1
      simpa [Addr.add] using World.cell?_spot this
    refine ⟨some a, cap, (List.range len).map F, by simp, by simpa using hl, ?_, ⟨fun h => by simp at h, fun a' h hne => ?_, fun a' h i hi' => ?_⟩⟩
    · unfold maxLen at hm
      exact Int.ofNat_le.2 hm
    · cases h
      exact hsp (by cases len with | zero => simp at hne | succ n => omega)
    · cases h
      simp only [List.length_map, List.length_range] at hi'
      have hs := hsp (by omega)
      have := hF i hi'
      simp only [addr_plus hs, addr_plus (a := ⟨a.block, a.off + i * 7, none⟩) rfl] at this
      simpa [Nat.add_assoc] using this

theorem laps_in {fuel : Nat} {v : Value} {y : DataW H × List MemPlace} (h : DataW.trod enc Try.prog w base spare held fuel 33 [v] = some y) (hz : ∀ m ∈ y.1.weights Try.prog 33, m ≤ reachBytes) :
    ∃ (ao : Option Addr) (cap : Nat) (l : List LapV), v = .slice ao l.length cap ∧ l.length ≤ cap ∧ (cap : Int) ≤ 9223372036854775807 ∧ LapsAt w ao l := by
  rcases open_slice Try.underlying33 h with ⟨hcs, _⟩ | ⟨a, len, cap, m, n', D, Pl, hcs, hb, hl, hm, hmm, hx, hi⟩
  · simp only [List.cons.injEq, and_true] at hcs
    exact ⟨none, 0, [], hcs, Nat.le_refl _, by simp, ⟨fun _ => rfl, fun a h => by simp at h, fun a h => by simp at h, fun i h => by simp at h⟩⟩
  · simp only [List.cons.injEq, and_true] at hcs
    subst hcs; subst hx
    have hlm : len ≤ m := by rw [hmm]; split <;> omega
    have hall : ∀ i, ∃ q : LapV, i < len → (w.cell? ((a.add (i * 3)).add 0) = some (.int .i64 q.fr) ∧ w.cell? ((a.add (i * 3)).add 1) = some (.int .i64 q.to_) ∧ w.cell? ((a.add (i * 3)).add 2) = some (.string q.name)) ∧ q.name.size ≤ 140737488355328 := fun i => by
      by_cases h : i < len
      · obtain ⟨cs', hc, ht⟩ := hi i (by omega)
        obtain ⟨ys, n2, hx1, hf⟩ := field_in Try.underlying135 (by kernel_rfl) (by kernel_rfl) hc ht
        rw [cells_lap] at hf
        obtain ⟨v0, y0, c0, _, t0⟩ := hf 0 _ rfl
        obtain ⟨v1, y1, c1, _, t1⟩ := hf 1 _ rfl
        obtain ⟨v2, y2, c2, hy2, t2⟩ := hf 2 _ rfl
        obtain ⟨z0, rfl⟩ := int_in t0
        obtain ⟨z1, rfl⟩ := int_in t1
        obtain ⟨z2, rfl, hz2⟩ := str_in t2 (fun k hk => hz k (weights_slice Try.underlying33 (List.mem_map.2 ⟨i, List.mem_range.2 h, rfl⟩) k (by
          simp only at hx1
          rw [hx1]
          exact weights_agg Try.underlying135 (j := 2) rfl hy2 k hk)))
        exact ⟨⟨z0, z1, z2⟩, fun _ => ⟨⟨c0, c1, c2⟩, hz2⟩⟩
      · exact ⟨⟨0, 0, ByteArray.empty⟩, fun h' => absurd h' h⟩
    obtain ⟨F, hF⟩ := Classical.skolem.1 hall
    have hsp : 0 < len → a.spot = none := fun h => by
      have := (hF 0 h).1.1
      simpa [Addr.add] using World.cell?_spot this
    refine ⟨some a, cap, (List.range len).map F, by simp, by simpa using hl, ?_, ⟨fun h => by simp at h, fun a' h hne => ?_, fun a' h i hi' => ?_, fun i hi' => ?_⟩⟩
    · unfold maxLen at hm
      exact Int.ofNat_le.2 hm
    · cases h
      exact hsp (by cases len with | zero => simp at hne | succ n => omega)
    · cases h
      simp only [List.length_map, List.length_range] at hi'
      have hs := hsp (by omega)
      have := (hF i hi').1
      simp only [addr_plus hs, addr_plus (a := ⟨a.block, a.off + i * 3, none⟩) rfl] at this
      simpa [Nat.add_assoc] using this
    · simp only [List.length_map, List.length_range] at hi'
      simpa using (hF i hi').2

theorem tags_in {fuel : Nat} {v : Value} {y : DataW H × List MemPlace} (h : DataW.trod enc Try.prog w base spare held fuel 34 [v] = some y) (hz : ∀ m ∈ y.1.weights Try.prog 34, m ≤ reachBytes) :
    ∃ (ao : Option Addr) (cap : Nat) (l : List ByteArray), v = .slice ao l.length cap ∧ l.length ≤ cap ∧ (cap : Int) ≤ 9223372036854775807 ∧ TagsAt w ao l := by
  rcases open_slice1 Try.underlying34 cells_str h with ⟨hcs, _⟩ | ⟨a, len, cap, m, n', V, D, Pl, hcs, hb, hl, hm, hmm, hx, hi⟩
  · simp only [List.cons.injEq, and_true] at hcs
    exact ⟨none, 0, [], hcs, Nat.le_refl _, by simp, ⟨fun _ => rfl, fun a h => by simp at h, fun a h => by simp at h, fun i h => by simp at h⟩⟩
  · simp only [List.cons.injEq, and_true] at hcs
    subst hcs; subst hx
    have hlm : len ≤ m := by rw [hmm]; split <;> omega
    have hall : ∀ i, ∃ q : ByteArray, i < len → w.cell? (a.add i) = some (.string q) ∧ q.size ≤ 140737488355328 := fun i => by
      by_cases h : i < len
      · obtain ⟨hc, ht⟩ := hi i (by omega)
        obtain ⟨z, hz1, hz2⟩ := str_in ht (fun k hk => hz k (weights_slice Try.underlying34 (List.mem_map.2 ⟨i, List.mem_range.2 h, rfl⟩) k hk))
        exact ⟨z, fun _ => ⟨by rw [hc, hz1], hz2⟩⟩
      · exact ⟨ByteArray.empty, fun h' => absurd h' h⟩
    obtain ⟨F, hF⟩ := Classical.skolem.1 hall
    have hsp : 0 < len → a.spot = none := fun h => by
      have := (hF 0 h).1
      simpa [Addr.add] using World.cell?_spot this
    refine ⟨some a, cap, (List.range len).map F, by simp, by simpa using hl, ?_, ⟨fun h => by simp at h, fun a' h hne => ?_, fun a' h i hi' => ?_, fun i hi' => ?_⟩⟩
    · unfold maxLen at hm
      exact Int.ofNat_le.2 hm
    · cases h
      exact hsp (by cases len with | zero => simp at hne | succ n => omega)
    · cases h
      simp only [List.length_map, List.length_range] at hi'
      have hs := hsp (by omega)
      have := (hF i hi').1
      rw [addr_plus hs] at this
      simpa using this
    · simp only [List.length_map, List.length_range] at hi'
      simpa using (hF i hi').2

/-- The fields of a struct that is an argument. -/
theorem agg_in {r : Reach} {b0 : Nat} {t : TypeId} {fs : Array Field} {v : Value} {d : DataW H} {p : List MemPlace} (hs : P.underlying t = some (.struct fs)) (hone : oneCellFields P fs = true) (hC : P.cellsOf t = fs.size)
    (hv : Value.okWide P w r b0 t v) (h : DataW.Trod enc P w base spare held t v d p) :
    ∃ (l : List Value) (ys : List (DataW H × List MemPlace)) (n : Nat), v = .agg l.toArray ∧ l.length = fs.size ∧ d = .agg (ys.map (·.1)) ∧
      ∀ (j : Nat) (f : Field), fs[j]? = some f → ∃ (c : Value) (y : DataW H × List MemPlace), l[j]? = some c ∧ ys[j]? = some y ∧ DataW.trod enc P w base spare held n f.type [c] = some y := by
  obtain ⟨cs, rfl, hsz⟩ := okWide_struct hs hv
  obtain ⟨l⟩ := cs
  obtain ⟨fuel, hf⟩ := h
  obtain ⟨ys, n, hx, hlen, hg⟩ := fields_in hs hone hC hf
  exact ⟨l, ys, n, rfl, hlen, hx, hg⟩

set_option maxRecDepth 100000 in
theorem smp_in {r : Reach} {b0 : Nat} {v : Value} {d : DataW H} {p : List MemPlace} (hv : Value.okWide Try.prog w r b0 79 v) (h : DataW.Trod enc Try.prog w base spare held 79 v d p) :
    ∃ s : Smp, v = .agg #[.int .i64 s.t, .int .i64 s.x, .int .i64 s.y, .int .i64 s.z, .int .i64 s.p, .int .i64 s.q, .int .i64 s.s] := by
  obtain ⟨l, ys, n, rfl, hl, _, hf⟩ := agg_in (enc := enc) (w := w) (P := Try.prog) (t := 79) Try.underlying79 (by kernel_rfl) (by kernel_rfl) hv h
  match l, hl with
  | [v0, v1, v2, v3, v4, v5, v6], _ =>
    obtain ⟨_, y0, c0, _, t0⟩ := hf 0 _ rfl
    obtain ⟨_, y1, c1, _, t1⟩ := hf 1 _ rfl
    obtain ⟨_, y2, c2, _, t2⟩ := hf 2 _ rfl
    obtain ⟨_, y3, c3, _, t3⟩ := hf 3 _ rfl
    obtain ⟨_, y4, c4, _, t4⟩ := hf 4 _ rfl
    obtain ⟨_, y5, c5, _, t5⟩ := hf 5 _ rfl
    obtain ⟨_, y6, c6, _, t6⟩ := hf 6 _ rfl
    obtain ⟨z0, rfl⟩ := int_in t0
    obtain ⟨z1, rfl⟩ := int_in t1
    obtain ⟨z2, rfl⟩ := int_in t2
    obtain ⟨z3, rfl⟩ := int_in t3
    obtain ⟨z4, rfl⟩ := int_in t4
    obtain ⟨z5, rfl⟩ := int_in t5
    obtain ⟨z6, rfl⟩ := int_in t6
    cases c0; cases c1; cases c2; cases c3; cases c4; cases c5; cases c6
    exact ⟨⟨z0, z1, z2, z3, z4, z5, z6⟩, rfl⟩

set_option maxRecDepth 100000 in
theorem act_in {r : Reach} {b0 : Nat} {v : Value} {d : DataW H} {p : List MemPlace} (hv : Value.okWide Try.prog w r b0 36 v) (h : DataW.Trod enc Try.prog w base spare held 36 v d p)
    (hz : ∀ m ∈ d.weights Try.prog 36, m ≤ reachBytes) :
    ∃ a : Act, v = a.val ∧ ActAt w a ∧ a.ss.length ≤ a.sc ∧ (a.sc : Int) ≤ 9223372036854775807 := by
  obtain ⟨l, ys, n, rfl, hl, rfl, hf⟩ := agg_in (enc := enc) (w := w) (P := Try.prog) (t := 36) Try.underlying36 (by kernel_rfl) (by kernel_rfl) hv h
  match l, hl with
  | [v0, v1, v2, v3, v4, v5], _ =>
    obtain ⟨_, y0, c0, e0, t0⟩ := hf 0 _ rfl
    obtain ⟨_, y1, c1, _, t1⟩ := hf 1 _ rfl
    obtain ⟨_, y2, c2, _, t2⟩ := hf 2 _ rfl
    obtain ⟨_, y3, c3, _, t3⟩ := hf 3 _ rfl
    obtain ⟨_, y4, c4, e4, t4⟩ := hf 4 _ rfl
    obtain ⟨_, y5, c5, e5, t5⟩ := hf 5 _ rfl
    obtain ⟨nm, rfl, hnm⟩ := str_in t0 (fun k hk => hz k (weights_agg Try.underlying36 (j := 0) rfl e0 k hk))
    obtain ⟨z1, rfl⟩ := int_in t1
    obtain ⟨z2, rfl⟩ := int_in t2
    obtain ⟨so, sc, ss, rfl, hs1, hs2, hs3⟩ := samples_in t3
    obtain ⟨lo, lc, ls, rfl, hl1, hl2, hl3⟩ := laps_in t4 (fun k hk => hz k (weights_agg Try.underlying36 (j := 4) rfl e4 k hk))
    obtain ⟨to_, tc, ts, rfl, ht1, ht2, ht3⟩ := tags_in t5 (fun k hk => hz k (weights_agg Try.underlying36 (j := 5) rfl e5 k hk))
    cases c0; cases c1; cases c2; cases c3; cases c4; cases c5
    exact ⟨⟨nm, z1, z2, so, sc, ss, lo, lc, ls, to_, tc, ts⟩, rfl, ⟨hnm, by show (ss.length : Int) ≤ _; omega, by show (ls.length : Int) ≤ _; omega, by show (ts.length : Int) ≤ _; omega, hs3, hl3, ht3⟩, hs1, hs2⟩

theorem sized_at {ts : List TypeId} {ds : List (DataW H)} (h : (DataW.weightsEach P ts ds).all (· ≤ reachBytes) = true) {j : Nat} {t : TypeId} {d : DataW H} (ht : ts[j]? = some t) (hd : ds[j]? = some d) : ∀ m ∈ d.weights P t, m ≤ reachBytes := fun m hm => by
  simpa using List.all_eq_true.1 h m (DataW.weights_mem_each ht hd m hm)
end
end Go.Proofs.Ytckelojdjmaliaa
namespace Go.Proofs.Ytckelojdjmaliaa
open Go.Joins Go.ChangeShapes Go.WideShapes Go.RowKit Go.Deep

theorem cells_pt : Try.prog.cellsOf 64 = 2 := by kernel_rfl
theorem cells_gate : Try.prog.cellsOf 73 = 4 := by kernel_rfl
section
variable {H : Type} {enc : TypeId × Value → H} {w : World} {base : Nat} {spare : Nat → Bool} {held : Bool} {r : Reach} {b0 : Nat}

set_option maxRecDepth 100000 in
theorem pt_cells {n : Nat} {cs : List Value} {x : DataW H × List MemPlace} (h : DataW.trod enc Try.prog w base spare held n 64 cs = some x) : ∃ p : Pt, cs = ptCs p := by
  obtain ⟨y0, y1, n', rfl, hl, h0, h1⟩ := trod_struct2 Try.underlying64 h
  rw [cells_pt] at hl
  match cs, hl with
  | [c0, c1], _ =>
    obtain ⟨z0, e0⟩ := int_in (v := c0) h0
    obtain ⟨z1, e1⟩ := int_in (v := c1) h1
    subst e0; subst e1
    exact ⟨⟨z0, z1⟩, rfl⟩
set_option maxRecDepth 100000 in
theorem gate_cells {n : Nat} {cs : List Value} {x : DataW H × List MemPlace} (h : DataW.trod enc Try.prog w base spare held n 73 cs = some x) : ∃ g : Gt, cs = gtCs g := by
  obtain ⟨y0, y1, n', rfl, hl, h0, h1⟩ := trod_struct2 Try.underlying73 h
  rw [cells_gate] at hl
  match cs, hl with
  | [c0, c1, c2, c3], _ =>
    obtain ⟨p, e0⟩ := pt_cells (cs := [c0, c1]) h0
    obtain ⟨q, e1⟩ := pt_cells (cs := [c2, c3]) h1
    simp only [ptCs, List.cons.injEq, and_true] at e0 e1
    obtain ⟨rfl, rfl⟩ := e0
    obtain ⟨rfl, rfl⟩ := e1
    exact ⟨⟨p.x, p.y, q.x, q.y⟩, rfl⟩

/-- A slice of structs of K cells that was read. -/
theorem rows_in {α : Type} [Inhabited α] {cs : α → List Value} {K : Nat} {t e : TypeId} (hK : Try.prog.cellsOf e = K) (h1 : 0 < K) (hlen : ∀ x, (cs x).length = K) (ht : Try.prog.underlying t = some (.slice e))
    (hcell : ∀ {n : Nat} {l : List Value} {x : DataW H × List MemPlace}, DataW.trod enc Try.prog w base spare held n e l = some x → ∃ p : α, l = cs p)
    {fuel : Nat} {v : Value} {y : DataW H × List MemPlace} (h : DataW.trod enc Try.prog w base spare held fuel t [v] = some y) :
    ∃ (ao : Option Addr) (cap : Nat) (l : List α), v = .slice ao l.length cap ∧ l.length ≤ cap ∧ (cap : Int) ≤ 9223372036854775807 ∧ RowsAt cs K w ao l := by
  rcases open_slice ht h with ⟨hcs, _⟩ | ⟨a, len, cap, m, n', D, Pl, hcs, hb, hl, hm, hmm, hx, hi⟩
  · simp only [List.cons.injEq, and_true] at hcs
    exact ⟨none, 0, [], hcs, Nat.le_refl _, by simp, rows_empty _⟩
  · simp only [List.cons.injEq, and_true] at hcs
    subst hcs
    rw [hK] at hi
    have hlm : len ≤ m := by rw [hmm]; split <;> omega
    have hall : ∀ i, ∃ q : α, i < len → ∀ k u, (cs q)[k]? = some u → w.cell? ((a.add (i * K)).add k) = some u := fun i => by
      by_cases h : i < len
      · obtain ⟨cs', hc, ht⟩ := hi i (by omega)
        obtain ⟨q, rfl⟩ := hcell ht
        obtain ⟨_, _, hat⟩ := World.cells?_some hc
        refine ⟨q, fun _ k u hu => ?_⟩
        have hk : k < K := by rw [← hlen q]; exact (List.getElem?_eq_some_iff.1 hu).1
        rw [hat k hk, hu]
      · exact ⟨default, fun h' => absurd h' h⟩
    obtain ⟨F, hF⟩ := Classical.skolem.1 hall
    have hsp : 0 < len → a.spot = none := fun h => by
      have hv : (cs (F 0))[0]? = some ((cs (F 0))[0]'(by rw [hlen]; exact h1)) := List.getElem?_eq_getElem _
      have := hF 0 h 0 _ hv
      simpa [Addr.add] using World.cell?_spot this
    refine ⟨some a, cap, (List.range len).map F, by simp, by simpa using hl, ?_, ⟨fun h => by simp at h, fun a' h hne => ?_, fun a' h i hi' k u hu => ?_⟩⟩
    · unfold maxLen at hm
      exact Int.ofNat_le.2 hm
    · cases h
      exact hsp (by cases len with | zero => simp at hne | succ n => omega)
    · cases h
      simp only [List.length_map, List.length_range] at hi'
      have hs := hsp (by omega)
      rw [List.getElem_map, List.getElem_range] at hu
      have := hF i hi' k u hu
      rw [addr_plus hs, addr_plus (a := ⟨a.block, a.off + i * K, none⟩) rfl] at this
      exact this

set_option maxRecDepth 100000 in
theorem points_in {v : Value} {d : DataW H} {p : List MemPlace} (hv : Value.okWide Try.prog w r b0 57 v) (h : DataW.Trod enc Try.prog w base spare held 57 v d p) :
    ∃ (ao : Option Addr) (cap : Nat) (l : List Pt), v = .slice ao l.length cap ∧ (l.length : Int) ≤ 9223372036854775807 ∧ PtsAt w ao l ∧ l.length ≤ cap := by
  obtain ⟨a0, len0, cap0, rfl⟩ := okWide_slice Try.underlying57 hv
  obtain ⟨fuel, hf⟩ := h
  obtain ⟨ao, cap, l, hv, h1, h2, h3⟩ := rows_in cells_pt (by omega) (fun _ => rfl) Try.underlying57 (fun h => pt_cells h) hf
  exact ⟨ao, cap, l, hv, by omega, h3, h1⟩

/-- A segment: its name and its gates. -/
structure Seg where
  name : ByteArray
  go_ : Option Addr
  gc : Nat
  gs : List Gt
abbrev Seg.val (s : Seg) : Value := .agg #[.string s.name, .slice s.go_ s.gs.length s.gc]
structure SegAt (w : World) (s : Seg) : Prop where
  ns : s.name.size ≤ 140737488355328
  gl : (s.gs.length : Int) ≤ 9223372036854775807
  hg : GatesAt w s.go_ s.gs
theorem SegAt.grown {w w' : World} {s : Seg} (h : SegAt w s) (g : w.grownBy w' none) : SegAt w' s := ⟨h.ns, h.gl, h.hg.grown g⟩

set_option maxRecDepth 100000 in
theorem seg_in {v : Value} {d : DataW H} {p : List MemPlace} (hv : Value.okWide Try.prog w r b0 24 v) (h : DataW.Trod enc Try.prog w base spare held 24 v d p)
    (hz : ∀ m ∈ d.weights Try.prog 24, m ≤ reachBytes) :
    ∃ s : Seg, v = s.val ∧ SegAt w s := by
  obtain ⟨l, ys, n, rfl, hl, rfl, hf⟩ := agg_in (enc := enc) (w := w) (P := Try.prog) (t := 24) Try.underlying24 (by kernel_rfl) (by kernel_rfl) hv h
  match l, hl with
  | [v0, v1], _ =>
    obtain ⟨_, y0, c0, e0, t0⟩ := hf 0 _ rfl
    obtain ⟨_, y1, c1, _, t1⟩ := hf 1 _ rfl
    obtain ⟨nm, rfl, hnm⟩ := str_in t0 (fun k hk => hz k (weights_agg Try.underlying24 (j := 0) rfl e0 k hk))
    obtain ⟨ao, cap, gs, rfl, h1, h2, h3⟩ := rows_in cells_gate (by omega) (fun _ => rfl) Try.underlying22 (fun h => gate_cells h) t1
    cases c0; cases c1
    exact ⟨⟨nm, ao, cap, gs⟩, rfl, hnm, by show (gs.length : Int) ≤ _; omega, h3⟩
end
end Go.Proofs.Ytckelojdjmaliaa
