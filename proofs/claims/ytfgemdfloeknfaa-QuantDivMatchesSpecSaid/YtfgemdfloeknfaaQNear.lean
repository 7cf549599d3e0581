/- What rounding to near, up, down means; and that multiples are rounded alike. No program. -/
import Derived.Test.YtfgemdfloeknfaaQRound
namespace Go.Proofs.Ytfgemdfloeknfaa

theorem rnd_mul (how a b k : Int) (_h1 : 1 ≤ how) (_h5 : how ≤ 5) (hb : 1 ≤ b) (hk : 1 ≤ k) : rndV how (k * a) (k * b) = rndV how a b := by
  unfold rndV
  rw [Int.mul_ediv_mul_of_pos _ _ (by omega), Int.mul_emod_mul_of_pos _ _ (by omega)]
  have h0 := Int.emod_nonneg a (show b ≠ 0 by omega)
  have h1 := Int.emod_lt_of_pos a (show 0 < b by omega)
  generalize a % b = r at *
  have e : k * b - k * r = k * (b - r) := by rw [Int.mul_sub]
  have ep : ∀ x y : Int, (k * x < k * y ↔ x < y) := fun x y => ⟨fun h => Int.lt_of_mul_lt_mul_left h (by omega), fun h => Int.mul_lt_mul_of_pos_left h (by omega)⟩
  have el : ∀ x y : Int, (k * x ≤ k * y ↔ x ≤ y) := fun x y => ⟨fun h => Int.le_of_mul_le_mul_left h (by omega), fun h => Int.mul_le_mul_of_nonneg_left h (by omega)⟩
  have ee : ∀ x y : Int, (k * x = k * y ↔ x = y) := fun x y => ⟨fun h => Int.eq_of_mul_eq_mul_left (by omega) h, fun h => by rw [h]⟩
  have e0 : (0 < k * r ↔ 0 < r) := by have := ep 0 r; rwa [Int.mul_zero] at this
  have : upB how (a / b) (k * r) (k * b) = upB how (a / b) r b := by
    unfold upB
    rw [e]
    simp only [el, ep, ee, e0]
  rw [this]

/-- How far the rounded quotient is from the exact one, times b. -/
theorem rnd_near' (how a b : Int) (h1 : 1 ≤ how) (h5 : how ≤ 5) (hb : 1 ≤ b) :
    -b < a - rndV how a b * b ∧ a - rndV how a b * b < b ∧ (how = 1 → 0 ≤ a - rndV how a b * b) ∧ (how = 2 → a - rndV how a b * b ≤ 0) ∧
    (how = 3 → a - rndV how a b * b = 0 ∨ (0 < a - rndV how a b * b ∧ 0 < a) ∨ (a - rndV how a b * b < 0 ∧ a < 0)) ∧ (4 ≤ how → 2 * (a - rndV how a b * b) ≤ b ∧ -b ≤ 2 * (a - rndV how a b * b)) := by
  have h0 := Int.emod_nonneg a (show b ≠ 0 by omega)
  have hl := Int.emod_lt_of_pos a (show 0 < b by omega)
  have hm := Int.mul_ediv_add_emod a b
  have hc : a / b * b = b * (a / b) := Int.mul_comm _ _
  have hneg : a / b < 0 → a < 0 := fun h => by
    rcases (show a < 0 ∨ 0 ≤ a by omega) with h' | h'
    · exact h'
    · have := Int.ediv_nonneg h' (show 0 ≤ b by omega); omega
  have hsg : (a / b < 0 ∧ a < 0) ∨ (0 ≤ a / b ∧ 0 ≤ b * (a / b)) := by
    rcases (show a / b < 0 ∨ 0 ≤ a / b by omega) with h | h
    · exact .inl ⟨h, hneg h⟩
    · exact .inr ⟨h, Int.mul_nonneg (by omega) h⟩
  clear hneg
  unfold rndV upB
  generalize a / b = q at *
  generalize a % b = r at *
  have e1 : (q + 1) * b = b * q + b := by rw [Int.add_mul, Int.mul_comm]; omega
  have e0 : (q + 0) * b = b * q := by rw [Int.add_zero, Int.mul_comm]
  rcases (show how = 1 ∨ how = 2 ∨ how = 3 ∨ how = 4 ∨ how = 5 by omega) with rfl | rfl | rfl | rfl | rfl
  all_goals simp
  all_goals (try split)
  all_goals first | rw [e1] | rw [e0] | rw [hc]
  all_goals omega
end Go.Proofs.Ytfgemdfloeknfaa
