/- A number token: the reference's way along digits is the program's. No program. -/
import Derived.Test.YtbacoopopokkfaaDoorQTok
import Derived.Lib.Atoi
namespace Go.Proofs.YtbacoopopokkfaaDoor
set_option linter.unusedSimpArgs false
set_option linter.unusedVariables false

/-- How far the reference has come: j digits, which spell n; c is the first. -/
structure NumSt (lo hi : Int) (B : List UInt8) (j n c : Nat) : Prop where
  j1 : 1 ≤ j
  len : j ≤ B.length
  dec : Lib.decFrom 0 (B.take j) = some n
  low : lo ≤ (n : Int)
  top : (n : Int) ≤ hi
  head : ∃ b r, B = b :: r ∧ b.toNat = c
  zero : c = 48 → n = 0
  big : c ≠ 48 → 10 ^ (j - 1) ≤ n
  num : numV lo hi (B.map UInt8.toNat) = ⟨(numMore hi ((B.map UInt8.toNat).drop j) n).1, true, (numMore hi ((B.map UInt8.toNat).drop j) n).2 + j⟩

theorem dig_val {b : UInt8} (h : isDig b.toNat = true) : Lib.digitVal b = some (b.toNat - 48) := by
  simp only [isDig, Bool.and_eq_true, decide_eq_true_eq] at h
  unfold Lib.digitVal
  rw [if_pos h]

theorem num_nil (lo hi : Int) : numV lo hi [] = ⟨0, false, 0⟩ := rfl
theorem num_start_no {lo hi : Int} (_ : 0 ≤ lo) {b : UInt8} {r : List UInt8} (h : ¬ (isDig b.toNat = true ∧ lo ≤ (b.toNat : Int) - 48)) : numV lo hi ((b :: r).map UInt8.toNat) = ⟨0, false, 0⟩ := by
  simp only [isDig, Bool.and_eq_true, decide_eq_true_eq] at h
  simp only [numV, tkV, List.map_cons]
  rw [if_neg (by omega)]
theorem num_start {lo hi : Int} (h9 : 9 ≤ hi) {b : UInt8} {r : List UInt8} (hd : isDig b.toNat = true) (hl : lo ≤ (b.toNat : Int) - 48) : NumSt lo hi (b :: r) 1 (b.toNat - 48) b.toNat := by
  have hd' := hd
  simp only [isDig, Bool.and_eq_true, decide_eq_true_eq] at hd'
  refine ⟨Nat.le_refl _, by simp, ?_, by omega, by omega, ⟨b, r, rfl, rfl⟩, fun h => by omega, fun h => by simp; omega, ?_⟩
  · simp only [List.take_succ_cons, List.take_zero, Lib.decFrom, dig_val hd]
    simp
  · simp only [numV, tkV, List.map_cons]
    rw [if_pos (by omega)]
    have e : ((b.toNat - 48 : Nat) : Int) = (b.toNat : Int) - 48 := by omega
    rw [e]
    rfl

theorem more_nil (hi n : Int) : numMore hi [] n = (n, 0) := rfl
theorem num_end {lo hi : Int} {B : List UInt8} {j n c : Nat} (h : NumSt lo hi B j n c) (he : B.length ≤ j) : numV lo hi (B.map UInt8.toNat) = ⟨n, true, j⟩ := by
  have e : (B.map UInt8.toNat).drop j = [] := List.drop_eq_nil_of_le (by simpa using he)
  rw [h.num, e, more_nil]
  simp

theorem num_next {B : List UInt8} {j : Nat} (hj : j < B.length) : (B.map UInt8.toNat).drop j = B[j].toNat :: (B.map UInt8.toNat).drop (j + 1) := by
  rw [List.drop_eq_getElem_cons (by simpa using hj)]
  simp

/-- What the reference asks of one digit more. -/
def NumMay (lo hi dg : Int) (j n c d : Nat) : Prop := ((j + 1 : Nat) : Int) ≤ dg ∧ ¬ (1 < j + 1 ∧ c = 48) ∧ lo ≤ ((n * 10 + (d - 48) : Nat) : Int) ∧ ((n * 10 + (d - 48) : Nat) : Int) ≤ hi

theorem num_may {lo hi : Int} {dg : Nat} (hdg : hi < ((10 ^ dg : Nat) : Int)) {B : List UInt8} {j n c : Nat} (h : NumSt lo hi B j n c) (_ : 0 ≤ lo) {d : Nat} (hd : isDig d = true) :
    NumMay lo hi dg j n c d ↔ (0 < (n : Int) ∧ 10 * (n : Int) ≤ hi ∧ 48 ≤ (d : Int) ∧ (d : Int) ≤ 48 + min (hi - 10 * n) 9) := by
  simp only [isDig, Bool.and_eq_true, decide_eq_true_eq] at hd
  have hlow := h.low
  have hj1 := h.j1
  unfold NumMay
  constructor
  · rintro ⟨_, h2, _, h4⟩
    have hc : c ≠ 48 := fun hc => h2 ⟨by omega, hc⟩
    have hb := h.big hc
    have : 0 < 10 ^ (j - 1) := Nat.pow_pos (by omega)
    omega
  · rintro ⟨h1, h2, h3, h4⟩
    have hc : c ≠ 48 := fun hc => by have := h.zero hc; omega
    have hb := h.big hc
    have hx : ((n * 10 + (d - 48) : Nat) : Int) ≤ hi := by omega
    refine ⟨?_, fun q => hc q.2, by omega, hx⟩
    have e : 10 ^ (j - 1) * 10 = 10 ^ j := by rw [← Nat.pow_succ]; congr 1; omega
    have h5 : 10 ^ j ≤ n * 10 := by rw [← e]; exact Nat.mul_le_mul_right 10 hb
    have h6 : 10 ^ j < 10 ^ dg := by omega
    have := (Nat.pow_lt_pow_iff_right (a := 10) (by omega)).1 h6
    omega

theorem num_dec {lo hi : Int} {B : List UInt8} {j n c : Nat} (h : NumSt lo hi B j n c) (hj : j < B.length) (hd : isDig B[j].toNat = true) : Lib.decFrom 0 (B.take (j + 1)) = some (n * 10 + (B[j].toNat - 48)) :=
  Lib.decFrom_take B j 0 n B[j] _ h.dec (List.getElem?_eq_getElem hj) (dig_val hd)

theorem num_stop {lo hi : Int} {B : List UInt8} {j n c : Nat} (h : NumSt lo hi B j n c) (hj : j < B.length) (hs : ¬ (0 < (n : Int) ∧ 10 * (n : Int) ≤ hi ∧ 48 ≤ (B[j].toNat : Int) ∧ (B[j].toNat : Int) ≤ 48 + min (hi - 10 * n) 9)) : numV lo hi (B.map UInt8.toNat) = ⟨n, true, j⟩ := by
  rw [h.num, num_next hj]
  simp only [numMore]
  rw [if_neg hs]
  simp
theorem num_nodig {lo hi : Int} {B : List UInt8} {j n c : Nat} (h : NumSt lo hi B j n c) (hj : j < B.length) (hd : isDig B[j].toNat = false) : numV lo hi (B.map UInt8.toNat) = ⟨n, true, j⟩ := by
  refine num_stop h hj ?_
  simp only [isDig, Bool.and_eq_false_iff, decide_eq_false_iff_not] at hd
  omega

theorem num_step {lo hi : Int} {B : List UInt8} {j n c : Nat} (h : NumSt lo hi B j n c) (hj : j < B.length) (hd : isDig B[j].toNat = true) (hs : 0 < (n : Int) ∧ 10 * (n : Int) ≤ hi ∧ 48 ≤ (B[j].toNat : Int) ∧ (B[j].toNat : Int) ≤ 48 + min (hi - 10 * n) 9) :
    NumSt lo hi B (j + 1) (n * 10 + (B[j].toNat - 48)) c := by
  have hlow := h.low
  refine ⟨by omega, by omega, num_dec h hj hd, by push_cast; omega, by push_cast; omega, h.head, fun q => by have := h.zero q; omega, fun q => ?_, ?_⟩
  · have hb := h.big q
    have hj1 := h.j1
    have e : 10 ^ (j - 1) * 10 = 10 ^ (j + 1 - 1) := by rw [← Nat.pow_succ]; congr 1; omega
    have := Nat.mul_le_mul_right 10 hb
    omega
  · rw [h.num, num_next hj]
    simp only [numMore]
    rw [if_pos hs]
    have e : 10 * (n : Int) + ((B[j].toNat : Int) - 48) = ((n * 10 + (B[j].toNat - 48) : Nat) : Int) := by push_cast; omega
    rw [e]
    simp only [Got.mk.injEq, true_and]
    omega
end Go.Proofs.YtbacoopopokkfaaDoor
