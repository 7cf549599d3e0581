
/- The mathematics of the long division by two digits. No program. -/
namespace Go.Proofs.YtbacoopopokkfaaDoor
set_option linter.unusedSimpArgs false
set_option linter.unusedVariables false

/-- One digit of the long division: B = 2^32, y = y1*B + y0 normalised, u < y, d < B; (q, r) stands at the head of a round. -/
structure DivInv (y1 y0 u d q r : Nat) : Prop where
  eq : q * y1 + r = u
  ge : (u * 4294967296 + d) / (y1 * 4294967296 + y0) ≤ q
  le : q ≤ 4294967297

theorem div_start (y1 y0 u : Nat) (d : Nat) (h1 : 2147483648 ≤ y1) (h0 : y0 < 4294967296) (hu : u < y1 * 4294967296 + y0) (hd : d < 4294967296) :
    DivInv y1 y0 u d (u / y1) (u - u / y1 * y1) ∧ u - u / y1 * y1 < y1 := by
  have hm := Nat.div_add_mod u y1
  have hlt := Nat.mod_lt u (show 0 < y1 by omega)
  have hc : u / y1 * y1 = y1 * (u / y1) := Nat.mul_comm _ _
  refine ⟨⟨by omega, ?_, ?_⟩, by omega⟩
  · have hy : 0 < y1 * 4294967296 + y0 := by omega
    have hs : (u * 4294967296 + d) / (y1 * 4294967296 + y0) < u / y1 + 1 := by
      rw [Nat.div_lt_iff_lt_mul hy]
      have e : (u / y1 + 1) * (y1 * 4294967296 + y0) = (y1 * (u / y1) + y1) * 4294967296 + (u / y1 + 1) * y0 := by
        rw [Nat.mul_add, Nat.add_mul, Nat.add_mul, Nat.add_mul, ← Nat.mul_assoc, Nat.mul_comm (u / y1) y1]; omega
      rw [e]
      have : 0 ≤ (u / y1 + 1) * y0 := Nat.zero_le _
      omega
    omega
  · have : u / y1 < 4294967298 := by
      rw [Nat.div_lt_iff_lt_mul (by omega)]; omega
    omega

theorem div_true1 {y1 y0 u d q r : Nat} (h : DivInv y1 y0 u d q r) (_h1 : 2147483648 ≤ y1) (hu : u < y1 * 4294967296 + y0) (hd : d < 4294967296)
    (hq : 4294967296 ≤ q) : DivInv y1 y0 u d (q - 1) (r + y1) := by
  obtain ⟨he, hg, hl⟩ := h
  refine ⟨?_, ?_, by omega⟩
  · have : (q - 1) * y1 = q * y1 - y1 := Nat.sub_one_mul q y1
    have : y1 ≤ q * y1 := Nat.le_mul_of_pos_left _ (by omega)
    omega
  · have hs : (u * 4294967296 + d) / (y1 * 4294967296 + y0) < 4294967296 := by
      rw [Nat.div_lt_iff_lt_mul (by omega)]; omega
    omega

theorem div_key {y1 y0 u q r : Nat} (he : q * y1 + r = u) (d : Nat) : q * (y1 * 4294967296 + y0) + (r * 4294967296 + d) = u * 4294967296 + d + q * y0 := by
  have e : q * (y1 * 4294967296 + y0) = q * y1 * 4294967296 + q * y0 := by rw [Nat.mul_add, ← Nat.mul_assoc]
  rw [e]; omega

theorem div_true2 {y1 y0 u d q r : Nat} (h : DivInv y1 y0 u d q r) (h1 : 2147483648 ≤ y1) 
    (hq : 4294967296 * r + d < q * y0) : DivInv y1 y0 u d (q - 1) (r + y1) := by
  obtain ⟨he, hg, hl⟩ := h
  have hpos : 0 < q := by
    rcases Nat.eq_zero_or_pos q with h0 | h0
    · subst h0; omega
    · exact h0
  refine ⟨?_, ?_, by omega⟩
  · have : (q - 1) * y1 = q * y1 - y1 := Nat.sub_one_mul q y1
    have : y1 ≤ q * y1 := Nat.le_mul_of_pos_left _ hpos
    omega
  · have hk := div_key (y0 := y0) he d
    have hs : (u * 4294967296 + d) / (y1 * 4294967296 + y0) < q := by
      rw [Nat.div_lt_iff_lt_mul (by omega)]; omega
    omega

/-- The tests say no, or the rest has outgrown B: q is the digit. -/
theorem div_end {y1 y0 u d q r : Nat} (h : DivInv y1 y0 u d q r) (h1 : 2147483648 ≤ y1) 
    (hq : q * y0 ≤ 4294967296 * r + d) : (u * 4294967296 + d) / (y1 * 4294967296 + y0) = q := by
  obtain ⟨he, hg, hl⟩ := h
  refine Nat.le_antisymm hg ?_
  have hk := div_key (y0 := y0) he d
  rw [Nat.le_div_iff_mul_le (by omega)]; omega

theorem div_break {y0 d q r : Nat} (h0 : y0 < 4294967296) (hq : q ≤ 4294967296) (hr : 4294967296 ≤ r) : q * y0 ≤ 4294967296 * r + d := by
  have : q * y0 ≤ 4294967296 * y0 := Nat.mul_le_mul_right _ hq
  omega

/-- What is left behind a digit. -/
theorem div_rest {y1 y0 u d q : Nat} (h1 : 2147483648 ≤ y1) (hq : (u * 4294967296 + d) / (y1 * 4294967296 + y0) = q) :
    (u * 4294967296 + d) - q * (y1 * 4294967296 + y0) = (u * 4294967296 + d) % (y1 * 4294967296 + y0) ∧ q * (y1 * 4294967296 + y0) ≤ u * 4294967296 + d ∧ (u * 4294967296 + d) % (y1 * 4294967296 + y0) < y1 * 4294967296 + y0 := by
  have hm := Nat.div_add_mod (u * 4294967296 + d) (y1 * 4294967296 + y0)
  have hlt := Nat.mod_lt (u * 4294967296 + d) (show 0 < y1 * 4294967296 + y0 by omega)
  rw [hq] at hm
  have : q * (y1 * 4294967296 + y0) = (y1 * 4294967296 + y0) * q := Nat.mul_comm _ _
  omega

/-- Two digits make the quotient. -/
theorem div_two (y N1 d : Nat) (hy : 0 < y) : (N1 * 4294967296 + d) / y = N1 / y * 4294967296 + (N1 % y * 4294967296 + d) / y ∧ (N1 * 4294967296 + d) % y = (N1 % y * 4294967296 + d) % y := by
  have hm := Nat.div_add_mod N1 y
  have e : N1 * 4294967296 + d = (N1 % y * 4294967296 + d) + y * (N1 / y * 4294967296) := by
    have : y * (N1 / y * 4294967296) = y * (N1 / y) * 4294967296 := by rw [Nat.mul_assoc]
    omega
  constructor
  · rw [e, Nat.add_mul_div_left _ _ hy]; omega
  · rw [e, Nat.add_mul_mod_self_left]

/-- A division shifted on both sides. -/
theorem div_shift (N y s : Nat) (_hy : 0 < y) : N * 2 ^ s / (y * 2 ^ s) = N / y ∧ N * 2 ^ s % (y * 2 ^ s) / 2 ^ s = N % y := by
  have hp : 0 < 2 ^ s := Nat.two_pow_pos s
  constructor
  · exact Nat.mul_div_mul_right _ _ hp
  · rw [Nat.mul_mod_mul_right]; exact Nat.mul_div_cancel _ hp


end Go.Proofs.YtbacoopopokkfaaDoor
