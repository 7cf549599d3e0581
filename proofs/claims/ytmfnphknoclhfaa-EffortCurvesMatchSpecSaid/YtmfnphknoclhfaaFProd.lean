/- Products within bounds. -/
namespace Go.Proofs.Ytmfnphknoclhfaa

theorem prod_bd {a b A B : Int} (a0 : 0 ≤ a) (a1 : a ≤ A) (b0 : 0 ≤ b) (b1 : b ≤ B) : 0 ≤ a * b ∧ a * b ≤ A * B :=
  ⟨Int.mul_nonneg a0 b0, Int.le_trans (Int.mul_le_mul_of_nonneg_right a1 b0) (Int.mul_le_mul_of_nonneg_left b1 (by omega))⟩
theorem ediv_bd {n s : Int} (h0 : 0 ≤ n) (hs : 1 ≤ s) : 0 ≤ n / s ∧ n / s ≤ n := ⟨Int.ediv_nonneg h0 (by omega), Int.ediv_le_self _ h0⟩

end Go.Proofs.Ytmfnphknoclhfaa
