/- Tests and the line through them, purely: no program. -/
import Derived.Test.YtdihmcbjoociiaaFPairs
import Derived.Test.YtdihmcbjoociiaaFRow
namespace Go.Proofs.Ytdihmcbjoociiaa

def RaceV.TOk (x : RaceV) : Prop := (1 ≤ x.way ∧ x.way ≤ 10000) ∧ 0 ≤ x.sec ∧ x.sec ≤ 100000000
instance (x : RaceV) : Decidable x.TOk := by unfold RaceV.TOk; exact inferInstance
def soonTe : Option RaceV → RaceV → Bool
  | none, _ => false
  | some q, x => decide (x.way ≤ q.way)
def testsL : Option RaceV → List RaceV → Int
  | _, [] => 0
  | p, x :: r => if x.TOk then (if soonTe p x = true then 10 else testsL (some x) r) else 9
theorem testsL_end {p : Option RaceV} {l : List RaceV} {k : Nat} (h : l.length ≤ k) : testsL p (l.drop k) = 0 := by
  rw [List.drop_eq_nil_of_le h]; cases p <;> rfl
theorem testsL_at {p : Option RaceV} {l : List RaceV} {k : Nat} (h : k < l.length) : testsL p (l.drop k) = if (raceD l k).TOk then (if soonTe p (raceD l k) = true then 10 else testsL (prevR l (k + 1)) (l.drop (k + 1))) else 9 := by
  rw [List.drop_eq_getElem_cons h, testsL, prevR, raceD_at h]
/-- What CheckTests returns. -/
def testsE (l : List RaceV) : Int := if (l.length : Int) ≤ 20 then testsL none l else 3
structure TestsOk (l : List RaceV) : Prop where
  len : (l.length : Int) ≤ 20
  each : ∀ k, k < l.length → (raceD l k).TOk
  up : ∀ k, k + 1 < l.length → (raceD l k).way < (raceD l (k + 1)).way
theorem testsL_ok : ∀ (l : List RaceV) (p : Option RaceV), testsL p l = 0 → (∀ k, k < l.length → (raceD l k).TOk) ∧ (∀ k, k + 1 < l.length → (raceD l k).way < (raceD l (k + 1)).way) ∧ ∀ q, p = some q → 0 < l.length → q.way < (raceD l 0).way
  | [], _, _ => ⟨fun k hk => absurd hk (by simp), fun k hk => absurd hk (by simp), fun q _ h => absurd h (by simp)⟩
  | x :: r, p, h => by
    unfold testsL at h
    split at h
    · rename_i hx
      split at h
      · omega
      · rename_i hs
        obtain ⟨a, b, c⟩ := testsL_ok r (some x) h
        refine ⟨fun k hk => ?_, fun k hk => ?_, fun q hq _ => ?_⟩
        · cases k with
          | zero => exact hx
          | succ m => exact a m (by simpa using hk)
        · cases k with
          | zero => exact c x rfl (by simpa using hk)
          | succ m => exact b m (by simpa using hk)
        · subst hq
          simp only [soonTe, decide_eq_true_eq, Int.not_le] at hs
          exact hs
    · omega
theorem tests_ok {l : List RaceV} (h : testsE l = 0) : TestsOk l := by
  unfold testsE at h
  split at h
  · rename_i h1
    obtain ⟨a, b, _⟩ := testsL_ok l none h
    exact ⟨h1, a, b⟩
  · omega

/-- The sums of the first tests: seconds, works, their squares, their products. -/
structure Sums where
  t : Int
  w : Int
  tt : Int
  tw : Int
def sumsN (l : List RaceV) : Nat → Sums
  | 0 => ⟨0, 0, 0, 0⟩
  | k + 1 => ⟨(sumsN l k).t + (raceD l k).way, (sumsN l k).w + (raceD l k).sec, (sumsN l k).tt + (raceD l k).way * (raceD l k).way, (sumsN l k).tw + (raceD l k).way * (raceD l k).sec⟩
theorem pair_bd {x : RaceV} (h : x.TOk) : (0 ≤ x.way * x.way ∧ x.way * x.way ≤ 100000000) ∧ 0 ≤ x.way * x.sec ∧ x.way * x.sec ≤ 1000000000000 := by
  obtain ⟨⟨a, b⟩, c, d⟩ := h
  refine ⟨⟨Int.mul_nonneg (by omega) (by omega), ?_⟩, Int.mul_nonneg (by omega) c, ?_⟩
  · have := Int.mul_le_mul b b (by omega) (by omega : (0 : Int) ≤ 10000); omega
  · have := Int.mul_le_mul b d c (by omega : (0 : Int) ≤ 10000); omega
structure SumsBd (k : Nat) (s : Sums) : Prop where
  t0 : 0 ≤ s.t
  t1 : s.t ≤ 10000 * k
  w0 : 0 ≤ s.w
  w1 : s.w ≤ 100000000 * k
  tt0 : 0 ≤ s.tt
  tt1 : s.tt ≤ 100000000 * k
  tw0 : 0 ≤ s.tw
  tw1 : s.tw ≤ 1000000000000 * k
theorem sums_bd {l : List RaceV} (h : TestsOk l) : ∀ k, k ≤ l.length → SumsBd k (sumsN l k)
  | 0, _ => ⟨by simp [sumsN], by simp [sumsN], by simp [sumsN], by simp [sumsN], by simp [sumsN], by simp [sumsN], by simp [sumsN], by simp [sumsN]⟩
  | k + 1, hk => by
    have ih := sums_bd h k (by omega)
    have hx := h.each k (by omega)
    obtain ⟨⟨p0, p1⟩, p2, p3⟩ := pair_bd hx
    obtain ⟨⟨a, b⟩, c, d⟩ := hx
    obtain ⟨i0, i1, i2, i3, i4, i5, i6, i7⟩ := ih
    rw [sumsN]
    generalize sumsN l k = s at *
    generalize (raceD l k).way * (raceD l k).way = X at *
    generalize (raceD l k).way * (raceD l k).sec = Y at *
    constructor <;> simp only [] <;> omega

/-- As many times the squares as there are tests, less the square of the seconds: above 0, since seconds differ. -/
theorem sq_pos (a b : Int) (h : a ≠ b) : 0 < (a - b) * (a - b) := by
  rcases Int.lt_or_gt_of_ne h with q | q
  · have : 0 < (b - a) * (b - a) := Int.mul_pos (by omega) (by omega)
    have e : (a - b) * (a - b) = (b - a) * (b - a) := by rw [← Int.neg_sub b a, Int.neg_mul_neg]
    omega
  · exact Int.mul_pos (by omega) (by omega)
/-- Cauchy and Schwarz, step by step: (k + 1) (S2 + x^2) - (S + x)^2 = k S2 - S^2 + (S2 - 2 S x + k x^2), and k times the last is at least (S - k x)^2. -/
theorem den_step {k S S2 x D : Int} (hk : 1 ≤ k) (hD : k * S2 - S * S = D) (h0 : 0 ≤ D) : 0 ≤ k * ((k + 1) * (S2 + x * x) - (S + x) * (S + x)) ∧ (S ≠ k * x → 0 < k * ((k + 1) * (S2 + x * x) - (S + x) * (S + x))) ∧ (0 < D → 0 < k * ((k + 1) * (S2 + x * x) - (S + x) * (S + x))) := by
  have e : k * ((k + 1) * (S2 + x * x) - (S + x) * (S + x)) = (k + 1) * D + (S - k * x) * (S - k * x) := by
    subst hD
    simp only [Int.mul_sub, Int.sub_mul, Int.mul_add, Int.add_mul, Int.one_mul]
    have e1 : k * (k * S2) = k * (k * S2) := rfl
    have a1 : k * (k * (x * x)) = k * x * (k * x) := by
      rw [Int.mul_assoc k x (k * x), Int.mul_left_comm x k x]
    have a2 : S * (k * x) = k * (S * x) := by rw [Int.mul_left_comm]
    have a3 : k * x * S = k * (S * x) := by rw [Int.mul_assoc, Int.mul_comm x S]
    have a4 : k * (x * S) = k * (S * x) := by rw [Int.mul_comm x S]
    omega
  rw [e]
  have h1 : 0 ≤ (k + 1) * D := Int.mul_nonneg (by omega) h0
  have h2 : 0 ≤ (S - k * x) * (S - k * x) := by
    rcases Int.lt_or_le (S - k * x) 0 with q | q
    · have : 0 ≤ (k * x - S) * (k * x - S) := Int.mul_nonneg (by omega) (by omega)
      have e2 : (S - k * x) * (S - k * x) = (k * x - S) * (k * x - S) := by rw [← Int.neg_sub (k * x) S, Int.neg_mul_neg]
      omega
    · exact Int.mul_nonneg q q
  refine ⟨by omega, fun h => ?_, fun h => ?_⟩
  · have := sq_pos S (k * x) h
    omega
  · have : 0 < (k + 1) * D := Int.mul_pos (by omega) h
    omega

theorem pos_of {k E : Int} (hk : 1 ≤ k) (h : 0 < k * E) : 0 < E := by
  rcases Int.lt_or_le 0 E with q | q
  · exact q
  · have := Int.mul_le_mul_of_nonneg_left q (by omega : 0 ≤ k)
    omega
theorem nonneg_of {k E : Int} (hk : 1 ≤ k) (h : 0 ≤ k * E) : 0 ≤ E := by
  rcases Int.lt_or_le E 0 with q | q
  · have := Int.mul_le_mul_of_nonneg_left (show E ≤ -1 by omega) (by omega : 0 ≤ k)
    omega
  · exact q
def denN (l : List RaceV) (k : Nat) : Int := (k : Int) * (sumsN l k).tt - (sumsN l k).t * (sumsN l k).t
theorem den_ok {l : List RaceV} (h : TestsOk l) : ∀ k, k + 1 ≤ l.length → 0 ≤ denN l (k + 1) ∧ (1 ≤ k → 0 < denN l (k + 1))
  | 0, _ => ⟨by simp [denN, sumsN], fun h => absurd h (by omega)⟩
  | k + 1, hk => by
    obtain ⟨a, b⟩ := den_ok h k (by omega)
    have e : denN l (k + 1 + 1) = (((k + 1 : Nat) : Int) + 1) * ((sumsN l (k + 1)).tt + (raceD l (k + 1)).way * (raceD l (k + 1)).way) - ((sumsN l (k + 1)).t + (raceD l (k + 1)).way) * ((sumsN l (k + 1)).t + (raceD l (k + 1)).way) := rfl
    have st := den_step (k := ((k + 1 : Nat) : Int)) (S := (sumsN l (k + 1)).t) (S2 := (sumsN l (k + 1)).tt) (x := (raceD l (k + 1)).way) (D := denN l (k + 1)) (by omega) rfl a
    rw [← e] at st
    refine ⟨nonneg_of (k := ((k + 1 : Nat) : Int)) (by omega) st.1, fun _ => pos_of (k := ((k + 1 : Nat) : Int)) (by omega) ?_⟩
    cases k with
    | zero =>
      refine st.2.1 ?_
      have := h.up 0 (by omega)
      have e1 : (sumsN l (0 + 1)).t = (raceD l 0).way := by simp [sumsN]
      rw [e1]
      show (raceD l 0).way ≠ 1 * (raceD l (0 + 1)).way
      omega
    | succ m => exact st.2.2 (b (by omega))

/-- What Fit returns. -/
def fitE (l : List RaceV) : Int := if testsE l = 0 then (if (l.length : Int) < 2 then 13 else 0) else testsE l
def num1 (l : List RaceV) : Int := (l.length : Int) * (sumsN l l.length).tw - (sumsN l l.length).t * (sumsN l l.length).w
def num2 (l : List RaceV) : Int := (sumsN l l.length).w * (sumsN l l.length).tt - (sumsN l l.length).t * (sumsN l l.length).tw
def den0 (l : List RaceV) : Int := (l.length : Int) * (sumsN l l.length).tt - (sumsN l l.length).t * (sumsN l l.length).t
theorem fit_ok {l : List RaceV} (h : fitE l = 0) : TestsOk l ∧ 2 ≤ (l.length : Int) ∧ 0 < den0 l := by
  unfold fitE at h
  split at h
  · rename_i h1
    split at h
    · omega
    · rename_i h2
      have hok := tests_ok h1
      obtain ⟨m, hm⟩ : ∃ m, l.length = m + 1 := ⟨l.length - 1, by omega⟩
      refine ⟨hok, by omega, ?_⟩
      have := (den_ok hok m (by omega)).2 (by omega)
      unfold denN at this
      unfold den0
      rw [hm]; exact this
  · rename_i h1; exact absurd h h1
/-- The greatest number by which both can be divided. -/
def gcdI (a b : Int) : Nat := Nat.gcd a.natAbs b.natAbs
theorem gcd_next (x y : Nat) : Nat.gcd y (x % y) = Nat.gcd x y := by
  rw [Nat.gcd_comm x y, Nat.gcd_rec y x, Nat.gcd_comm]

/-- What Errors returns. -/
def errN (l : List RaceV) (power work : Int) (j : Nat) : Int := (raceD l j).sec - (work + power * (raceD l j).way)
def errE (l : List RaceV) (power work : Int) : Int := if testsE l = 0 then (if (0 ≤ power ∧ power ≤ 1000000) ∧ 0 ≤ work ∧ work ≤ 1000000000 then 0 else 9) else testsE l
def errL (l : List RaceV) (power work : Int) : Nat := if errE l power work = 0 then l.length else 0
theorem err_ok {l : List RaceV} {power work : Int} (h : errE l power work = 0) : TestsOk l ∧ (0 ≤ power ∧ power ≤ 1000000) ∧ 0 ≤ work ∧ work ≤ 1000000000 := by
  unfold errE at h
  split at h
  · rename_i h1
    split at h
    · rename_i h2; exact ⟨tests_ok h1, h2.1, h2.2⟩
    · omega
  · rename_i h1; exact absurd h h1
theorem errL_not {l : List RaceV} {power work E : Int} (h : errE l power work = E) (hE : E ≠ 0) : errL l power work = 0 := by
  unfold errL; rw [if_neg (by rw [h]; exact hE)]
theorem errL_ok {l : List RaceV} {power work : Int} (h : errE l power work = 0) : errL l power work = l.length := by
  unfold errL; rw [if_pos h]
theorem errL_le (l : List RaceV) (power work : Int) : errL l power work ≤ 20 := by
  unfold errL
  split
  · rename_i h; have := (err_ok h).1.len; omega
  · omega

end Go.Proofs.Ytdihmcbjoociiaa
