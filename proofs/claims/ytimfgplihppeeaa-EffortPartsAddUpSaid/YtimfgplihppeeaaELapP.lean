/- Laps of so far each, and of so many seconds each, plainly. No program. -/
import Derived.Test.YtimfgplihppeeaaEInts
namespace Go.Proofs.Ytimfgplihppeeaa

/-- Laps with these ends, up to one that ends where it begins. -/
def lapL : Int → List Int → List (Int × Int)
  | _, [] => []
  | fr, t :: r => if fr = t then [] else (fr, t) :: lapL t r
/-- Where so far was gone, from a second on. -/
def endsL (way : Int) : Int → Int → List Int → List Int
  | _, _, [] => []
  | i, g, n :: r => if way ≤ g + n then (i + 1) :: endsL way (i + 1) 0 r else endsL way (i + 1) (g + n) r
/-- The reference's laps. -/
def refL (way : Int) : Int → Int → Int → List Int → List (Int × Int)
  | i, fr, _, [] => if fr < i then [(fr, i)] else []
  | i, fr, g, n :: r => if way ≤ g + n then (fr, i + 1) :: refL way (i + 1) (i + 1) 0 r else refL way (i + 1) fr (g + n) r
theorem lap_ref (way : Int) : ∀ (l : List Int) (i fr g : Int), fr ≤ i → lapL fr (endsL way i g l ++ [i + l.length]) = refL way i fr g l
  | [], i, fr, g, h => by
    simp only [endsL, refL, List.nil_append, List.length_nil, Int.natCast_zero, Int.add_zero, lapL]
    by_cases e : fr = i
    · rw [if_pos e, if_neg (by omega)]
    · rw [if_neg e, if_pos (by omega)]
  | n :: r, i, fr, g, h => by
    have el : i + ((n :: r).length : Int) = (i + 1) + (r.length : Int) := by simp; omega
    rw [el]
    simp only [endsL, refL]
    split
    · rw [List.cons_append, lapL, if_neg (by omega), lap_ref way r (i + 1) (i + 1) 0 (Int.le_refl _)]
    · exact lap_ref way r (i + 1) fr (g + n) (by omega)

/-- Ends after so many seconds each. -/
def endsT (s span : Int) (e : Int) : List Int := if _h : e ≤ span ∧ 1 ≤ s then e :: endsT s span (e + s) else []
  termination_by (span + 1 - e).toNat
  decreasing_by omega
def refT (s span : Int) (fr : Int) : List (Int × Int) := if _h : fr < span ∧ 1 ≤ s then (fr, min (fr + s) span) :: refT s span (fr + s) else []
  termination_by (span - fr).toNat
  decreasing_by omega
theorem endsT_more {s span e : Int} (h : e ≤ span) (hs : 1 ≤ s) : endsT s span e = e :: endsT s span (e + s) := by
  rw [endsT, dif_pos ⟨h, hs⟩]
theorem endsT_end {s span e : Int} (h : span < e) : endsT s span e = [] := by
  rw [endsT, dif_neg (by omega)]
theorem refT_more {s span e : Int} (h : e < span) (hs : 1 ≤ s) : refT s span e = (e, min (e + s) span) :: refT s span (e + s) := by
  rw [refT, dif_pos ⟨h, hs⟩]
theorem refT_end {s span e : Int} (h : span ≤ e) : refT s span e = [] := by
  rw [refT, dif_neg (by omega)]
theorem lap_refT {s span : Int} (hs : 1 ≤ s) : ∀ (n : Nat) (fr : Int), (span - fr).toNat ≤ n → fr ≤ span → lapL fr (endsT s span (fr + s) ++ [span]) = refT s span fr
  | n, fr, hn, h => by
    by_cases h1 : fr + s ≤ span
    · match n with
      | 0 => omega
      | n + 1 =>
        rw [endsT_more h1 hs, refT_more (by omega) hs, List.cons_append, lapL, if_neg (by omega), lap_refT hs n (fr + s) (by omega) h1]
        congr 2
        omega
    · rw [endsT_end (by omega), List.nil_append]
      by_cases h2 : fr = span
      · rw [refT_end (by omega), lapL, if_pos h2]
      · rw [refT_more (by omega) hs, refT_end (e := fr + s) (by omega), lapL, if_neg h2]
        simp only [lapL]
        congr 2
        omega

/-- Laps are one behind the other, from a second on. -/
def Chain : Int → List (Int × Int) → Prop
  | _, [] => True
  | fr, (a, b) :: r => a = fr ∧ a < b ∧ Chain b r
theorem refL_chain (way : Int) : ∀ (l : List Int) (i fr g : Int), fr ≤ i → Chain fr (refL way i fr g l)
  | [], i, fr, g, h => by
    unfold refL
    split
    · exact ⟨rfl, by omega, trivial⟩
    · trivial
  | n :: r, i, fr, g, h => by
    unfold refL
    split
    · exact ⟨rfl, by omega, refL_chain way r _ _ _ (Int.le_refl _)⟩
    · exact refL_chain way r _ _ _ (by omega)
theorem refT_chain {s span : Int} (hs : 1 ≤ s) : ∀ (n : Nat) (fr : Int), (span - fr).toNat ≤ n → Chain fr (refT s span fr)
  | n, fr, hn => by
    by_cases h : fr < span
    · match n with
      | 0 => omega
      | n + 1 =>
        rw [refT_more h hs]
        refine ⟨rfl, by show fr < min (fr + s) span; omega, ?_⟩
        by_cases h1 : fr + s ≤ span
        · rw [show min (fr + s) span = fr + s by omega]
          exact refT_chain hs n (fr + s) (by omega)
        · rw [refT_end (by omega)]; trivial
    · rw [refT_end (by omega)]; trivial

/-- All ends lie ahead of one another. -/
theorem endsL_le (way : Int) : ∀ (l : List Int) (i g : Int), (endsL way i g l).length ≤ l.length
  | [], _, _ => by simp [endsL]
  | n :: r, i, g => by
    unfold endsL
    split
    · simp only [List.length_cons]; have := endsL_le way r (i + 1) 0; omega
    · have := endsL_le way r (i + 1) (g + n); simp only [List.length_cons]; omega
theorem endsL_bd (way : Int) : ∀ (l : List Int) (i g : Int), ∀ x ∈ endsL way i g l, i < x ∧ x ≤ i + l.length
  | [], _, _, x, hx => by simp [endsL] at hx
  | n :: r, i, g, x, hx => by
    unfold endsL at hx
    simp only [List.length_cons, Int.natCast_add, Int.natCast_one]
    split at hx
    · rcases List.mem_cons.1 hx with rfl | hx
      · omega
      · have := endsL_bd way r (i + 1) 0 x hx; omega
    · have := endsL_bd way r (i + 1) (g + n) x hx; omega
theorem endsT_le {s span : Int} (hs : 1 ≤ s) : ∀ (n : Nat) (e : Int), (span + 1 - e).toNat ≤ n → (endsT s span e).length ≤ n
  | n, e, hn => by
    by_cases h : e ≤ span
    · match n with
      | 0 => omega
      | n + 1 =>
        rw [endsT_more h hs]
        have := endsT_le (span := span) hs n (e + s) (by omega)
        simp only [List.length_cons]; omega
    · rw [endsT_end (by omega)]; simp
end Go.Proofs.Ytimfgplihppeeaa
