/- The contract of the reference's Root. -/
import Derived.Test.YtgkhhfojioepgaaBaseB
namespace Go.Proofs.Ytgkhhfojioepgaa
open Go.RowKit
set_option linter.unusedSimpArgs false
set_option linter.unusedVariables false

set_option maxHeartbeats 800000 in
theorem refRoot_any (n R : Nat) (hn : n < 9223372036854775808) (hR : Hid (IsRoot n R)) (w : World) :
    Calls Try.prog 107 #[.int .i64 n] w fun e w' => e = .returned (.tuple #[.int .i64 R, .int .i64 0]) ∧ w = w' := by
  have hRb := root_lt hR.out hn
  have hRi : (R : Int) ≤ 3037000499 := by omega
  have hni : (n : Int) ≤ 9223372036854775807 := by omega
  clear hRb hn
  go_enter Try.func107, Try.ntmps107
  go_wp2
  go_loop [4, 5] (fun lv hv => ∃ lo hi : Nat, lv = .int .i64 lo ∧ hv = .int .i64 hi ∧ (lo : Int) ≤ (R : Int) ∧ (R : Int) ≤ (hi : Int) ∧ (hi : Int) ≤ 3037000499) (fun lv hv => (intOf hv - intOf lv).toNat)
  case atStart => exact ⟨0, 3037000499, rfl, rfl, by omega, by omega, by omega⟩
  case round =>
    obtain ⟨lo, hi, rfl, rfl, h1, h2, h3⟩ := hrel
    by_cases hlt : (lo : Int) < (hi : Int)
    · obtain ⟨mid, hmid⟩ : ∃ m, (lo + hi + 1) / 2 = m := ⟨_, rfl⟩
      have hm1 : lo < mid := by omega
      have hm2 : mid ≤ hi := by omega
      have eM : ((lo : Int) + (hi : Int) + 1) / 2 = (mid : Int) := by omega
      obtain ⟨sq, hsq⟩ : ∃ m, mid * mid = m := ⟨_, rfl⟩
      have hsb : sq ≤ 3037000499 * 3037000499 := by rw [← hsq]; exact Nat.mul_le_mul (by omega) (by omega)
      have eQ : IntKind.i64.wrap ((mid : Int) * (mid : Int)) = (sq : Int) := by rw [← Int.natCast_mul, hsq]; exact IntWalk.i64_in _ (by omega)
      have hcmp : sq ≤ n ↔ mid ≤ R := by rw [← hsq]; exact root_le hR.out
      have hm1i : (lo : Int) < (mid : Int) := by omega
      have hm2i : (mid : Int) ≤ (hi : Int) := by omega
      by_cases hc : (sq : Int) ≤ (n : Int)
      · have hc2 : (mid : Int) ≤ (R : Int) := by have := hcmp.1 (by omega); omega
        clear hcmp hmid hsq hsb hm1 hm2
        go_wp2
        go_round
        case rel => exact ⟨mid, hi, by first | rfl | rw [eM], rfl, hc2, h2, h3⟩
        case measure => simp [intOf]; omega
      · have hc2 : (R : Int) ≤ ((mid - 1 : Nat) : Int) := by have := hcmp; omega
        have hm0 : Hid (0 < mid) := by show _ < _; omega
        have hm3 : Hid (((mid - 1 : Nat) : Int) ≤ 3037000499) := by show _ ≤ _; omega
        have HC := Lib.hid hc2
        clear hcmp hmid hsq hsb hm1 hm2 hc2
        go_wp2
        go_round
        case rel => exact ⟨lo, mid - 1, rfl, by have := hm0.out; first | go_num | (rw [eM]; go_num), h1, HC.out, hm3.out⟩
        case measure => simp [intOf]; omega
    · have hr : lo = R := by omega
      have HR := Lib.hid hr; clear hr
      go_wp2
      go_ret2
      exact ⟨ret_ii (by rw [HR.out]) rfl, rfl⟩

theorem refRoot_neg (n : Int) (hn : n < 0) (w : World) : Calls Try.prog 107 #[.int .i64 n] w fun e w' => e = .returned (.tuple #[.int .i64 0, .int .i64 1]) ∧ w = w' := by
  go_enter Try.func107, Try.ntmps107
  go_wp2
  go_ret2
  exact ⟨rfl, rfl⟩
/-- Both Roots return the same. -/
theorem roots (n : Int) (h0 : -9223372036854775808 ≤ n) (h1 : n ≤ 9223372036854775807) : ∃ r e : Int,
    (∀ w, Calls Try.prog 133 #[.int .i64 n] w fun x w' => x = .returned (.tuple #[.int .i64 r, .int .i64 e]) ∧ w = w') ∧
    (∀ w, Calls Try.prog 107 #[.int .i64 n] w fun x w' => x = .returned (.tuple #[.int .i64 r, .int .i64 e]) ∧ w = w') := by
  by_cases hn : n < 0
  · exact ⟨0, 1, root_neg n hn, refRoot_neg n hn⟩
  · obtain ⟨m, rfl⟩ : ∃ m : Nat, (m : Int) = n := ⟨n.toNat, by omega⟩
    obtain ⟨R, hR⟩ := root_exists m
    exact ⟨R, 0, root_any m R (by omega) hR, refRoot_any m R (by omega) hR⟩

end Go.Proofs.Ytgkhhfojioepgaa
