
/- Rounded quotients: as the program rounds (up from the whole number below), and as the other way has it (without a sign first). No program. -/
namespace Go.Proofs.YtbacoopopokkfaaDoor
set_option linter.unusedSimpArgs false
set_option linter.unusedVariables false
def big : Int := 4611686018427387904

/-- Is the whole number above q taken? n = q * d + r. -/
def upB (how q r d : Int) : Bool :=
  if how = 1 then false
  else if how = 2 then decide (0 < r)
  else if how = 3 then decide (0 < r) && decide (q < 0)
  else if how = 4 then decide (d - r ≤ r)
  else decide (d - r < r) || (decide (r = d - r) && decide (q % 2 = 1))

def rndV (how n d : Int) : Int := n / d + (if upB how (n / d) (n % d) d then 1 else 0)

def scaleV (a num den how : Int) : Int × Int :=
  if how < 1 ∨ 5 < how then (0, 7)
  else if den < 1 ∨ num < 0 then (0, 1)
  else if rndV how (a * num) den < -big ∨ big < rndV how (a * num) den then (0, 9)
  else (rndV how (a * num) den, 0)

theorem neg_div_of (N d : Int) (hd : 0 < d) (h : N % d = 0) : -N / d = -(N / d) ∧ -N % d = 0 := by
  have hm := Int.mul_ediv_add_emod N d
  have e : -N = d * (-(N / d)) := by rw [Int.mul_neg]; omega
  constructor
  · rw [e, Int.mul_ediv_cancel_left _ (by omega)]
    
  · rw [e]; exact Int.mul_emod_right _ _

theorem neg_div_of' (N d : Int) (hd : 0 < d) (h : N % d ≠ 0) : -N / d = -(N / d) - 1 ∧ -N % d = d - N % d := by
  have hm := Int.mul_ediv_add_emod N d
  have h1 := Int.emod_nonneg N (show d ≠ 0 by omega)
  have h2 := Int.emod_lt_of_pos N hd
  have e : -N = (d - N % d) + d * (-(N / d) - 1) := by
    rw [Int.mul_sub, Int.mul_neg]; omega
  constructor
  · rw [e, Int.add_mul_ediv_left _ _ (by omega), Int.ediv_eq_zero_of_lt (by omega) (by omega)]; omega
  · rw [e, Int.add_mul_emod_self_left, Int.emod_eq_of_lt (by omega) (by omega)]

theorem rnd_near (how n d : Int) : n / d ≤ rndV how n d ∧ rndV how n d ≤ n / d + 1 := by
  unfold rndV; split <;> omega

theorem up_zero (how q d : Int) (hd : 0 < d) : upB how q 0 d = false := by
  unfold upB
  repeat' split
  all_goals simp
  all_goals omega

/-- A quotient too great is no result, however rounded. -/
theorem scale_no (a num den how : Int) (h1 : 1 ≤ how) (h5 : how ≤ 5) (hd : 1 ≤ den) (hn : 0 ≤ num) (hb : big < (a.natAbs * num) / den) : scaleV a num den how = (0, 9) := by
  unfold scaleV
  rw [if_neg (by omega), if_neg (by omega), if_pos]
  have hr := rnd_near how (a * num) den
  rcases (show a < 0 ∨ 0 ≤ a by omega) with ha | ha
  · left
    have en : (a.natAbs : Int) = -a := by omega
    have e : a * num = -((a.natAbs : Int) * num) := by rw [en, Int.neg_mul, Int.neg_neg]
    rw [e] at hr ⊢
    generalize (a.natAbs : Int) * num = N at *
    unfold rndV at hr ⊢
    by_cases hz : N % den = 0
    · obtain ⟨e1, e2⟩ := neg_div_of N den (by omega) hz
      rw [e1, e2, up_zero _ _ _ (by omega)]
      simp; omega
    · obtain ⟨e1, e2⟩ := neg_div_of' N den (by omega) hz
      rw [e1]; split <;> omega
  · right
    have e : (a.natAbs : Int) = a := by omega
    rw [e] at hb
    omega

/-- The other way of it: without a sign, and rounded up if it is to be. -/
def moreB (quo rest den : Int) (minus : Bool) (how : Int) : Bool :=
  if rest = 0 then false
  else if how = 1 then minus
  else if how = 2 then !minus
  else if how = 3 then false
  else if rest = den - rest then (if how = 4 then !minus else decide (quo % 2 = 1))
  else decide (den - rest < rest)

theorem more_pos (how q r d : Int) (h1 : 1 ≤ how) (h5 : how ≤ 5) (hq : 0 ≤ q) (h0 : 0 ≤ r) (hr : r < d) : upB how q r d = moreB q r d false how := by
  unfold upB moreB
  by_cases c0 : r = 0
  · subst c0; repeat' split
    all_goals (simp; try omega)
  rcases (show how = 1 ∨ how = 2 ∨ how = 3 ∨ how = 4 ∨ how = 5 by omega) with rfl | rfl | rfl | rfl | rfl
  · simp [c0]
  · simp [c0]; omega
  · simp [c0]; omega
  · simp [c0]; rw [Bool.eq_iff_iff]; simp; omega
  · by_cases c : r = d - r
    · have c' : ¬ d - r < r := by omega
      simp [c0, ← c]
    · simp [c0, if_neg c]; intro h; omega

theorem more_neg (how q r d : Int) (h1 : 1 ≤ how) (h5 : how ≤ 5) (hq : 0 ≤ q) (h0 : 0 < r) (hr : r < d) : upB how (-q - 1) (d - r) d = !moreB q r d true how := by
  unfold upB moreB
  have c0 : r ≠ 0 := by omega
  rcases (show how = 1 ∨ how = 2 ∨ how = 3 ∨ how = 4 ∨ how = 5 by omega) with rfl | rfl | rfl | rfl | rfl
  · simp [c0]
  · simp [c0]; omega
  · simp [c0]; omega
  · simp [c0]; rw [Bool.eq_iff_iff]; simp; omega
  · by_cases c : r = d - r
    · simp [c0]; rw [if_pos c]; rw [Bool.eq_iff_iff]; simp; omega
    · simp [c0]; rw [if_neg c]; rw [Bool.eq_iff_iff]; simp; omega

def quoV (a num den how : Int) : Int :=
  (a.natAbs * num) / den + (if moreB ((a.natAbs * num) / den) ((a.natAbs * num) % den) den (decide (a < 0)) how then 1 else 0)

theorem scale_ref (a num den how : Int) (h1 : 1 ≤ how) (h5 : how ≤ 5) (hd : 1 ≤ den) (hn : 0 ≤ num) :
    scaleV a num den how = if big < quoV a num den how then (0, 9) else ((if a < 0 then -quoV a num den how else quoV a num den how), 0) := by
  have key : rndV how (a * num) den = (if a < 0 then -quoV a num den how else quoV a num den how) ∧ 0 ≤ quoV a num den how := by
    rcases (show a < 0 ∨ 0 ≤ a by omega) with ha | ha
    · have en : (a.natAbs : Int) = -a := by omega
      have e : a * num = -((a.natAbs : Int) * num) := by rw [en, Int.neg_mul, Int.neg_neg]
      have hN : 0 ≤ (a.natAbs : Int) * num := Int.mul_nonneg (by omega) hn
      rw [e, if_pos ha]
      unfold quoV
      generalize (a.natAbs : Int) * num = N at *
      have hq : 0 ≤ N / den := Int.ediv_nonneg hN (by omega)
      have hr0 := Int.emod_nonneg N (show den ≠ 0 by omega)
      have hr1 := Int.emod_lt_of_pos N (show 0 < den by omega)
      rw [decide_eq_true ha]
      unfold rndV
      by_cases hz : N % den = 0
      · obtain ⟨e1, e2⟩ := neg_div_of N den (by omega) hz
        rw [e1, e2, up_zero _ _ _ (by omega), hz]
        simp [moreB]; omega
      · obtain ⟨e1, e2⟩ := neg_div_of' N den (by omega) hz
        rw [e1, e2, more_neg how _ _ _ h1 h5 hq (by omega) hr1]
        cases moreB (N / den) (N % den) den true how <;> simp <;> omega
    · have e : (a.natAbs : Int) = a := by omega
      have hN : 0 ≤ a * num := Int.mul_nonneg (by omega) hn
      unfold quoV
      rw [e, if_neg (by omega), decide_eq_false (by omega)]
      generalize a * num = N at *
      have hq : 0 ≤ N / den := Int.ediv_nonneg hN (by omega)
      have hr0 := Int.emod_nonneg N (show den ≠ 0 by omega)
      have hr1 := Int.emod_lt_of_pos N (show 0 < den by omega)
      unfold rndV
      rw [more_pos how _ _ _ h1 h5 hq hr0 hr1]
      exact ⟨rfl, by split <;> omega⟩
  unfold scaleV
  obtain ⟨k1, k2⟩ := key
  rw [if_neg (by omega), if_neg (by omega), k1]
  unfold big at *
  split <;> split <;> split <;> first | rfl | omega | (exfalso; omega)

end Go.Proofs.YtbacoopopokkfaaDoor
