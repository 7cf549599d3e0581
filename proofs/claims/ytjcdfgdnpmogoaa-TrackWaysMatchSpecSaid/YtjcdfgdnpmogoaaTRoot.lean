/- The contracts of both Roots: the greatest whole number whose square is not above n. -/
import Derived.Test.YtjcdfgdnpmogoaaTAct
import Derived.Laws.BitsAllLaws
import Derived.IntWalk
namespace Go.Proofs.Ytjcdfgdnpmogoaa
open Go.RowKit

def IsRoot (n r : Nat) : Prop := r * r ≤ n ∧ n < (r + 1) * (r + 1)

theorem root_exists (n : Nat) : ∃ r, IsRoot n r := by
  induction n with
  | zero => exact ⟨0, by unfold IsRoot; omega⟩
  | succ n ih =>
    obtain ⟨r, h1, h2⟩ := ih
    by_cases h : (r + 1) * (r + 1) ≤ n + 1
    · refine ⟨r + 1, h, ?_⟩
      have e : (r + 1 + 1) * (r + 1 + 1) = (r + 1) * (r + 1) + 2 * (r + 1) + 1 := by rw [Nat.add_mul, Nat.mul_add, Nat.mul_add]; omega
      omega
    · exact ⟨r, by omega, by omega⟩

theorem root_le {n r x : Nat} (h : IsRoot n r) : x * x ≤ n ↔ x ≤ r := by
  constructor
  · intro hx
    rcases Nat.lt_or_ge r x with h' | h'
    · exfalso
      have := Nat.mul_le_mul h' h'
      have h2 := h.2
      have e : (r + 1) * (r + 1) = r.succ * r.succ := rfl
      omega
    · exact h'
  · intro hx
    have := Nat.mul_le_mul hx hx
    have := h.1
    omega

theorem root_lt {n r : Nat} (h : IsRoot n r) (hn : n < 9223372036854775808) : r ≤ 3037000499 := by
  rcases Nat.lt_or_ge 3037000499 r with h' | h'
  · have := Nat.mul_le_mul h' h'
    have := h.1
    omega
  · exact h'

theorem i64_or_nat (a b : Nat) (ha : a < 9223372036854775808) (hb : b < 9223372036854775808) : bits .or .i64 (a : Int) (b : Int) = ((a ||| b : Nat) : Int) := by
  have hx : a ||| b < 2 ^ 63 := Nat.or_lt_two_pow (by omega) (by omega)
  have h1 : (BitVec.ofInt 64 (a : Int)).toNat = a := by
    rw [BitVec.ofInt_natCast, BitVec.toNat_ofNat]; exact Nat.mod_eq_of_lt (by omega)
  have h2 : (BitVec.ofInt 64 (b : Int)).toNat = b := by
    rw [BitVec.ofInt_natCast, BitVec.toNat_ofNat]; exact Nat.mod_eq_of_lt (by omega)
  show IntKind.i64.wrap ((BitVec.ofInt 64 (a : Int) ||| BitVec.ofInt 64 (b : Int)).toNat : Int) = _
  rw [BitVec.toNat_or, h1, h2]
  exact IntWalk.i64_in _ (by omega)

theorem div_sq {n x : Nat} (hx : 0 < x) : x ≤ n / x ↔ x * x ≤ n := Nat.le_div_iff_mul_le hx

def bitOf (j : Nat) : Nat := if j = 0 then 0 else 2 ^ (j - 1)
theorem bitOf_half (j : Nat) : bitOf (j + 1) / 2 = bitOf j := by
  unfold bitOf
  rw [if_neg (by omega)]
  cases j with
  | zero => rfl
  | succ m => rw [if_neg (by omega)]; simp [Nat.pow_succ]
theorem bitOf_le (j : Nat) (h : j ≤ 32) : bitOf j ≤ 2147483648 := by
  unfold bitOf; split
  · omega
  · have : (2 : Nat) ^ (j - 1) ≤ 2 ^ 31 := Nat.pow_le_pow_right (by decide) (by omega)
    omega
theorem bitOf_pos (j : Nat) : 0 < bitOf (j + 1) := by unfold bitOf; rw [if_neg (by omega)]; exact Nat.two_pow_pos _

set_option maxHeartbeats 800000 in
theorem root_any (n R : Nat) (hn : n < 9223372036854775808) (hR : Hid (IsRoot n R)) (w : World) :
    Calls Try.prog 133 #[.int .i64 n] w fun e w' => e = .returned (.tuple #[.int .i64 R, .int .i64 0]) ∧ w = w' := by
  have hRb := root_lt hR.out hn
  have hRi : (R : Int) ≤ 3037000499 := by omega
  have hni : (n : Int) ≤ 9223372036854775807 := by omega
  have HN := Lib.hid hn
  clear hRb hn
  go_enter Try.func133, Try.ntmps133
  go_wp2
  go_loop [4, 5] (fun rt bt => ∃ j root bit : Nat, j ≤ 32 ∧ rt = .int .i64 root ∧ bt = .int .i64 bit ∧ Hid (bit = bitOf j) ∧ (root : Int) ≤ (R : Int) ∧ Hid (R < root + 2 ^ j ∧ root % 2 ^ j = 0)) (fun _ bt => (intOf bt).toNat)
  case atStart => exact ⟨32, 0, 2147483648, by omega, rfl, rfl, rfl, by omega, by show _ ∧ _; omega⟩
  case round =>
    obtain ⟨j, root, bit, hj, rfl, rfl, hbit, hrt, hinv⟩ := hrel
    cases j with
    | zero =>
      have hb : bit = 0 := hbit.out
      have hi := hinv.out
      have hr : root = R := by omega
      subst hb
      have HR := Lib.hid hr
      clear hr hi
      go_wp2
      go_ret2
      exact ⟨ret_ii (by rw [HR.out]) rfl, rfl⟩
    | succ i =>
      have hb : bit = 2 ^ i := by rw [hbit.out]; unfold bitOf; rw [if_neg (by omega)]; rfl
      have hbp : 0 < bit := by rw [hb]; exact Nat.two_pow_pos _
      have hi := hinv.out
      have hpow : 2 ^ (i + 1) = 2 * bit := by rw [hb, Nat.pow_succ, Nat.mul_comm]
      have hor : root ||| bit = root + bit := nat_join (i + 1) root bit hi.2 (by omega)
      rw [hpow] at hi
      have hbl : bit ≤ 2147483648 := by rw [hbit.out]; exact bitOf_le _ hj
      have hbit2 : bit / 2 = bitOf i := by rw [hbit.out]; exact bitOf_half i
      obtain ⟨nx, hnx⟩ : ∃ x, root + bit = x := ⟨_, rfl⟩
      obtain ⟨q, hq⟩ : ∃ x, n / nx = x := ⟨_, rfl⟩
      obtain ⟨b2, hb2⟩ : ∃ x, bit / 2 = x := ⟨_, rfl⟩
      have hnp : 0 < nx := by omega
      have hnl : nx ≤ 6000000000 := by omega
      have hcmp : nx ≤ q ↔ nx ≤ R := by rw [← hq, div_sq hnp]; exact root_le hR.out
      have eOr : bits .or .i64 (root : Int) (bit : Int) = (nx : Int) := by rw [i64_or_nat _ _ (by omega) (by omega), hor, hnx]
      have hqn : q ≤ n := by rw [← hq]; exact Nat.div_le_self _ _
      have eD : (n : Int) / (nx : Int) = (q : Int) := by rw [← Int.natCast_ediv, hq]
      have eD2 : IntKind.i64.wrap ((n : Int) / (nx : Int)) = (q : Int) := by rw [eD]; exact IntWalk.i64_in _ (by have := HN.out; omega)
      have hqi : (q : Int) ≤ 9223372036854775807 := by have := HN.out; omega
      have eS : (bit : Int) / 2 = (b2 : Int) := by omega
      have hb0 : 0 < (bit : Int) := by omega
      have hz : ¬ (nx : Int) = 0 := by omega
      have hz2 : ¬ nx = 0 := by omega
      have hm0 : root % 2 ^ i = 0 := by
        have : root % bit = 0 := by have h1 := Nat.mod_mod_of_dvd root (show bit ∣ 2 * bit from Nat.dvd_mul_left _ _); rw [hi.2] at h1; simpa using h1.symm
        rw [← hb]; exact this
      have hm1 : nx % 2 ^ i = 0 := by rw [← hb, ← hnx]; have : root % bit = 0 := by rw [hb]; exact hm0
                                      simp [this]
      have hB2 : Hid (b2 = bitOf i) := by show _ = _; omega
      have hlt : b2 < bit := by omega
      have hlti : (b2 : Int) < (bit : Int) := by omega
      have F0 : R < nx → Hid (R < root + 2 ^ i ∧ root % 2 ^ i = 0) := fun h => ⟨by rw [← hb]; omega, hm0⟩
      have F1 : Hid (R < nx + 2 ^ i ∧ nx % 2 ^ i = 0) := ⟨by rw [← hb]; omega, hm1⟩
      have HF0 := Lib.hid F0; have HB := Lib.hid hb; have HLT := Lib.hid hlt
      clear hi hpow hor hbl hbit2 hnx hq hb2 hqn hm0 hm1 hb hbp hbit hinv F0 hlt
      by_cases hc : (nx : Int) ≤ (q : Int)
      · have hc2 : (nx : Int) ≤ (R : Int) := by have := hcmp.1 (by omega); omega
        clear hcmp
        go_wp2
        go_round
        case rel => exact ⟨i, nx, b2, by omega, rfl, rfl, hB2, hc2, F1⟩
        case measure => simp [intOf]; omega
      · have hc2 : Hid (R < nx) := by show _ < _; have := hcmp; omega
        clear hcmp
        go_wp2
        go_round
        case rel => exact ⟨i, root, b2, by omega, rfl, rfl, hB2, hrt, HF0.out hc2.out⟩
        case measure => simp [intOf]; omega

theorem root_neg (n : Int) (hn : n < 0) (w : World) : Calls Try.prog 133 #[.int .i64 n] w fun e w' => e = .returned (.tuple #[.int .i64 0, .int .i64 1]) ∧ w = w' := by
  go_enter Try.func133, Try.ntmps133
  go_wp2
  go_ret2
  exact ⟨rfl, rfl⟩
end Go.Proofs.Ytjcdfgdnpmogoaa
