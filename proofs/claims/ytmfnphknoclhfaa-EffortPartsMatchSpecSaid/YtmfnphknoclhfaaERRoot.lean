/- The contract of the reference's root of chapter 4, and of valueOf. -/
import Derived.Test.YtmfnphknoclhfaaEShare
namespace Go.Proofs.Ytmfnphknoclhfaa
open Go.RowKit

set_option maxHeartbeats 800000 in
theorem eroot_any (n R : Nat) (hn : n < 9223372036854775808) (hR : Hid (IsRoot n R)) (w : World) :
    Calls Try.prog 175 #[.int .i64 n] w fun e w' => e = .returned (.int .i64 R) ∧ w = w' := by
  have hRb := root_lt hR.out hn
  have hRi : (R : Int) ≤ 3037000499 := by omega
  have hni : (n : Int) ≤ 9223372036854775807 := by omega
  clear hRb hn
  go_enter Try.func175, Try.ntmps175
  go_wp2
  go_loop [3, 4] (fun lv hv => ∃ lo hi : Nat, lv = .int .i64 lo ∧ hv = .int .i64 hi ∧ (lo : Int) ≤ (R : Int) ∧ (R : Int) ≤ (hi : Int) ∧ (hi : Int) ≤ 3037000499) (fun lv hv => (intOf hv - intOf lv).toNat)
  case atStart => exact ⟨0, 3037000499, rfl, rfl, by omega, by omega, by omega⟩
  case round =>
    obtain ⟨lo, hi, rfl, rfl, h1, h2, h3⟩ := hrel
    by_cases hlt : (lo : Int) < (hi : Int)
    · obtain ⟨mid, hmid⟩ : ∃ m, (lo + hi + 1) / 2 = m := ⟨_, rfl⟩
      have hm1 : lo < mid := by omega
      have hm2 : mid ≤ hi := by omega
      have eM : ((lo : Int) + (hi : Int) + 1) / 2 = (mid : Int) := by omega
      obtain ⟨sq, hsq⟩ : ∃ m, mid * mid = m := ⟨_, rfl⟩
      have hsb : sq ≤ 3037000499 * 3037000499 := by rw [← hsq]; exact Nat.mul_le_mul (by omega) (by omega)
      have eQ : IntKind.i64.wrap ((mid : Int) * (mid : Int)) = (sq : Int) := by rw [← Int.natCast_mul, hsq]; exact IntWalk.i64_in _ (by omega)
      have hcmp : sq ≤ n ↔ mid ≤ R := by rw [← hsq]; exact root_le hR.out
      have hm1i : (lo : Int) < (mid : Int) := by omega
      have hm2i : (mid : Int) ≤ (hi : Int) := by omega
      by_cases hc : (sq : Int) ≤ (n : Int)
      · have hc2 : (mid : Int) ≤ (R : Int) := by have := hcmp.1 (by omega); omega
        clear hcmp hmid hsq hsb hm1 hm2
        go_wp2
        go_round
        case rel => exact ⟨mid, hi, by first | rfl | rw [eM], rfl, hc2, h2, h3⟩
        case measure => simp [intOf]; omega
      · have hc2 : (R : Int) ≤ ((mid - 1 : Nat) : Int) := by have := hcmp; omega
        have hm0 : Hid (0 < mid) := by show _ < _; omega
        have hm3 : Hid (((mid - 1 : Nat) : Int) ≤ 3037000499) := by show _ ≤ _; omega
        have HC := Lib.hid hc2
        clear hcmp hmid hsq hsb hm1 hm2 hc2
        go_wp2
        go_round
        case rel => exact ⟨lo, mid - 1, rfl, by have := hm0.out; first | go_num | (rw [eM]; go_num), h1, HC.out, hm3.out⟩
        case measure => simp [intOf]; omega
    · have hr : lo = R := by omega
      have HR := Lib.hid hr; clear hr
      go_wp2
      go_ret
      exact ⟨ret_int (by rw [HR.out]), rfl⟩

/-- What a sample has that is measured. -/
def mesE (p : Smp) (kind : Int) : Int := if kind = 1 then p.p else if kind = 2 then p.q else p.s
theorem valueOf_is (p : Smp) (kind : Int) (w : World) {v : Int} (hv : Hid (mesE p kind = v)) :
    Calls Try.prog 176 #[.agg #[.int .i64 p.t, .int .i64 p.x, .int .i64 p.y, .int .i64 p.z, .int .i64 p.p, .int .i64 p.q, .int .i64 p.s], .int .i64 kind] w fun e w' => e = .returned (.int .i64 v) ∧ w.grownBy w' none := by
  obtain ⟨pt, px, py, pz, pp, pq, ps⟩ := p
  have hq := hv.out
  unfold mesE at hq
  simp only at hq
  clear hv
  by_cases k1 : kind = 1
  · rw [if_pos k1] at hq
    subst hq; subst k1
    go_enter Try.func176, Try.ntmps176
    go_wp2_with fail
    go_ret
    exact ⟨rfl, World.grownBy_alloc _ _ _⟩
  · rw [if_neg k1] at hq
    have n1 : (kind == 1) = false := by simpa using k1
    by_cases k2 : kind = 2
    · rw [if_pos k2] at hq
      subst hq; subst k2
      go_enter Try.func176, Try.ntmps176
      go_wp2_with fail
      go_ret
      exact ⟨rfl, World.grownBy_alloc _ _ _⟩
    · rw [if_neg k2] at hq
      have n2 : (kind == 2) = false := by simpa using k2
      subst hq
      go_enter Try.func176, Try.ntmps176
      go_wp2_with fail
      go_ret
      exact ⟨rfl, World.grownBy_alloc _ _ _⟩
end Go.Proofs.Ytmfnphknoclhfaa
