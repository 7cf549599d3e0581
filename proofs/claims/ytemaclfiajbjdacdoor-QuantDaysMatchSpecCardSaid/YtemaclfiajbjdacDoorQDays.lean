/- The mathematics of years and weeks: the first day of a year, told in two ways; the Monday of week 1. No program. -/
namespace Go.Proofs.YtemaclfiajbjdacDoor

/-- The day of the 1st of January. -/
def NY (y : Int) : Int := 365 * (y - 1) + (y - 1) / 4 - (y - 1) / 100 + (y - 1) / 400 - 730121

def leapB (y : Int) : Bool := decide (y % 4 = 0) && (decide (y % 100 ≠ 0) || decide (y % 400 = 0))
def yearLen (y : Int) : Int := if leapB y then 366 else 365

theorem NY_succ (y : Int) : NY (y + 1) = NY y + yearLen y := by
  unfold NY yearLen leapB
  by_cases h1 : y % 4 = 0
  · by_cases h2 : y % 100 = 0
    · by_cases h3 : y % 400 = 0
      · simp [h1, h2, h3]; omega
      · simp [h1, h2, h3]; omega
    · simp [h1, h2]; omega
  · simp [h1]; omega

theorem NY_400 (y : Int) : NY (y + 400) = NY y + 146097 := by unfold NY; omega
theorem NY_2000 : NY 2000 = -2 := by decide

theorem yearLen_bd (y : Int) : 365 ≤ yearLen y ∧ yearLen y ≤ 366 := by unfold yearLen; split <;> omega

theorem NY_mono (a b : Int) (h : a ≤ b) : NY a ≤ NY b := by unfold NY; omega
theorem NY_lt (a b : Int) (h : a < b) : NY a + 365 ≤ NY b := by unfold NY; omega

/-- The Monday of week 1. -/
def FM (y : Int) : Int := NY y + 3 - (NY y + 3) % 7

theorem week_year (y m : Int) (_hm : m % 7 = 0) : NY y ≤ m + 3 ↔ FM y ≤ m := by unfold FM; omega

theorem in_year (y z d : Int) (h1 : NY y ≤ d) (h2 : d < NY (y + 1)) (h3 : NY z ≤ d) (h4 : d < NY (z + 1)) : y = z := by
  rcases (show y < z ∨ y = z ∨ z < y by omega) with h | h | h
  · have := NY_mono (y + 1) z (by omega); omega
  · exact h
  · have := NY_mono (z + 1) y (by omega); omega

theorem week_num (y m : Int) (_hm : m % 7 = 0) (_h : FM y ≤ m) (_h3 : 2000 ≤ y) : (m + 3 - NY y) / 7 = (m - FM y) / 7 := by unfold FM at *; omega

theorem FM_step (y : Int) : FM (y + 1) - FM y = 364 ∨ FM (y + 1) - FM y = 371 := by
  have := NY_succ y
  have := yearLen_bd y
  unfold FM; omega

theorem NY_bd (y : Int) (h0 : 1999 ≤ y) (h1 : y ≤ 5001) : -367 ≤ NY y ∧ NY y ≤ 1096100 := by unfold NY; omega
theorem FM_mod (y : Int) : FM y % 7 = 0 := by unfold FM; omega
theorem FM_2000 : FM 2000 = 0 := by decide

/-- Days of years of the cycle of 400. -/
theorem NY_cycle (k r : Int) : NY (2000 + 400 * k + r) = 146097 * k + NY (2000 + r) := by unfold NY; omega

def monLen (y m : Int) : Int := if m = 2 then yearLen y - 337 else if m = 4 ∨ m = 6 ∨ m = 9 ∨ m = 11 then 30 else 31
/-- Days of a year before a month. -/
def cumD (y : Int) (m : Int) : Int :=
  if m ≤ 1 then 0 else if m = 2 then 31 else (yearLen y - 365) + (if m = 3 then 59 else if m = 4 then 90 else if m = 5 then 120 else if m = 6 then 151 else if m = 7 then 181 else if m = 8 then 212 else if m = 9 then 243 else if m = 10 then 273 else if m = 11 then 304 else if m = 12 then 334 else 365)
theorem cumD_succ (y m : Int) (h1 : 1 ≤ m) (h2 : m ≤ 12) : cumD y (m + 1) = cumD y m + monLen y m := by
  rcases (show m = 1 ∨ m = 2 ∨ m = 3 ∨ m = 4 ∨ m = 5 ∨ m = 6 ∨ m = 7 ∨ m = 8 ∨ m = 9 ∨ m = 10 ∨ m = 11 ∨ m = 12 by omega) with rfl | rfl | rfl | rfl | rfl | rfl | rfl | rfl | rfl | rfl | rfl | rfl <;> simp [cumD, monLen] <;> omega
theorem cumD_13 (y : Int) : cumD y 13 = yearLen y := by simp [cumD]
theorem monLen_bd (y m : Int) : 28 ≤ monLen y m ∧ monLen y m ≤ 31 := by
  have := yearLen_bd y
  unfold monLen; repeat' split
  all_goals omega
theorem cumD_bd (y m : Int) (h1 : 1 ≤ m) (h2 : m ≤ 13) : 0 ≤ cumD y m ∧ cumD y m ≤ 366 := by
  have := yearLen_bd y
  rcases (show m = 1 ∨ m = 2 ∨ m = 3 ∨ m = 4 ∨ m = 5 ∨ m = 6 ∨ m = 7 ∨ m = 8 ∨ m = 9 ∨ m = 10 ∨ m = 11 ∨ m = 12 ∨ m = 13 by omega) with rfl | rfl | rfl | rfl | rfl | rfl | rfl | rfl | rfl | rfl | rfl | rfl | rfl <;> simp [cumD] <;> omega
end Go.Proofs.YtemaclfiajbjdacDoor
