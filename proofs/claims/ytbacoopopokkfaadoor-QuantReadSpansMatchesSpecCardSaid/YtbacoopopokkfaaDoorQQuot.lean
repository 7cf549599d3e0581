/- The contract of quotient. -/
import Derived.Test.YtbacoopopokkfaaDoorQDiv
import Derived.Test.YtbacoopopokkfaaDoorQRound
import Derived.Test.YtbacoopopokkfaaDoorShelf
namespace Go.Proofs.YtbacoopopokkfaaDoor
open Go.RowKit
set_option linter.unusedSimpArgs false
set_option linter.unusedVariables false

theorem back (M num : Nat) : M * num / 18446744073709551616 * 18446744073709551616 + M * num % 18446744073709551616 = M * num := by omega

/-- The quotient without a sign, from the product on. -/
theorem mul_any (x y : Nat) (hx : x < 18446744073709551616) (hy : y < 18446744073709551616) (w : World) {H L : Nat} (hH : Hid (x * y / 18446744073709551616 = H)) (hL : Hid (x * y % 18446744073709551616 = L)) :
    Calls Tryd.prog 59 #[.int .u64 x, .int .u64 y] w fun e w' => e = .returned (.tuple #[.int .u64 H, .int .u64 L]) ∧ w = w' := by
  refine (Tryd.bits_Mul64 x y hx hy w).mono ?_
  rintro e w' ⟨h1, h2⟩
  exact ⟨by rw [h1, hH.out, hL.out], h2.symm⟩
theorem div_any {hi lo y : Nat} (w : World) (hy : hi < y) (hy2 : y < 18446744073709551616) (hl : lo < 18446744073709551616) {Q R : Nat} (hQ : Hid ((hi * 18446744073709551616 + lo) / y = Q)) (hR : Hid ((hi * 18446744073709551616 + lo) % y = R)) :
    Calls Tryd.prog 60 #[.int .u64 hi, .int .u64 lo, .int .u64 y] w fun e w' => e = .returned (.tuple #[.int .u64 Q, .int .u64 R]) ∧ w.grownBy w' none := by
  refine (div64_any hi lo y w hy hy2 hl).mono ?_
  rintro e w' ⟨h1, h2⟩
  exact ⟨by rw [h1, hQ.out, hR.out], h2⟩


theorem neg_wrap (a : Int) (M : Nat) (hM : M = a.natAbs) (ha : a < 0) (ha0 : -9223372036854775808 ≤ a) : IntKind.u64.wrap a = (((18446744073709551616 - M : Nat) : Nat) : Int) ∧ IntKind.u64.wrap (-(((18446744073709551616 - M : Nat) : Nat) : Int)) = (M : Int) := by
  rw [IntKind.wrap_u64, IntKind.wrap_u64]; omega

def TooBig (M num den : Nat) : Prop := 4611686018427387904 < M * num / den

set_option maxHeartbeats 1600000 in
theorem quot_no (a : Int) (num den : Nat) (ha0 : -9223372036854775808 ≤ a) (ha1 : a ≤ 9223372036854775807) (hn : num ≤ 9223372036854775807) (hd0 : 1 ≤ den) (hd1 : den ≤ 9223372036854775807) (hbig : TooBig a.natAbs num den) (w : World) :
    Calls Tryd.prog 38 #[.int .i64 a, .int .u64 num, .int .u64 den] w fun e w' => (e = .returned (.tuple #[.int .i64 0, .int .u64 0, .bool false])) ∧ w.grownBy w' none := by
  obtain ⟨M, hM⟩ : ∃ M, M = a.natAbs := ⟨_, rfl⟩
  obtain ⟨H, hH⟩ : ∃ H, M * num / 18446744073709551616 = H := ⟨_, rfl⟩
  obtain ⟨L, hL⟩ : ∃ H, M * num % 18446744073709551616 = H := ⟨_, rfl⟩
  have hM64 : M ≤ 9223372036854775808 := by omega
  have hL64 : L < 18446744073709551616 := by rw [← hL]; exact Nat.mod_lt _ (by decide)
  have hback := back M num
  rw [hH, hL] at hback
  rw [← hM] at hbig
  obtain ⟨Q, hQ⟩ : ∃ Q, (H * 18446744073709551616 + L) / den = Q := ⟨_, rfl⟩
  obtain ⟨R, hR⟩ : ∃ Q, (H * 18446744073709551616 + L) % den = Q := ⟨_, rfl⟩
  have hQb : 4611686018427387904 < Q := by unfold TooBig at hbig; rw [← hback, hQ] at hbig; exact hbig
  have hQi : (4611686018427387904 : Int) < (Q : Int) := by omega
  have HH := Lib.hid hH; have HL := Lib.hid hL; have HB := Lib.hid hback; have HQ := Lib.hid hQ; have HR := Lib.hid hR; have HM := Lib.hid hM; have HBIG := Lib.hid hbig
  clear hH hL hback hQ hR hQb hbig
  by_cases hhd : (den : Int) ≤ (H : Int)
  · by_cases hneg : a < 0
    · obtain ⟨e1, e2⟩ := neg_wrap a M hM hneg ha0
      obtain ⟨A1, hA1⟩ : ∃ A1, 18446744073709551616 - M = A1 := ⟨_, rfl⟩
      rw [hA1] at e1 e2
      clear hA1 hM
      go_enter Tryd.func38, Tryd.ntmps38
      go_wp2_with (go_at_call 59; refine (mul_any M num (by omega) (by omega) _ HH HL).mono ?_; rintro e w1 ⟨rfl, rfl⟩)
      go_ret3
      exact ⟨rfl, grown_refl _ _⟩
    · obtain rfl : a = (M : Int) := by omega
      clear hM
      go_enter Tryd.func38, Tryd.ntmps38
      go_wp2_with (go_at_call 59; refine (mul_any M num (by omega) (by omega) _ HH HL).mono ?_; rintro e w1 ⟨rfl, rfl⟩)
      go_ret3
      exact ⟨rfl, grown_refl _ _⟩
  · by_cases hneg : a < 0
    · obtain ⟨e1, e2⟩ := neg_wrap a M hM hneg ha0
      obtain ⟨A1, hA1⟩ : ∃ A1, 18446744073709551616 - M = A1 := ⟨_, rfl⟩
      rw [hA1] at e1 e2
      clear hA1 hM
      go_enter Tryd.func38, Tryd.ntmps38
      go_wp2_with (first | (go_at_call 59; refine (mul_any M num (by omega) (by omega) _ HH HL).mono ?_; rintro e w1 ⟨rfl, rfl⟩) | (go_at_call 60; refine (div_any _ (by omega) (by omega) hL64 HQ HR).mono ?_; rintro e w2 ⟨rfl, hg⟩))
      go_ret3
      exact ⟨rfl, by assumption⟩
    · obtain rfl : a = (M : Int) := by omega
      clear hM
      go_enter Tryd.func38, Tryd.ntmps38
      go_wp2_with (first | (go_at_call 59; refine (mul_any M num (by omega) (by omega) _ HH HL).mono ?_; rintro e w1 ⟨rfl, rfl⟩) | (go_at_call 60; refine (div_any _ (by omega) (by omega) hL64 HQ HR).mono ?_; rintro e w2 ⟨rfl, hg⟩))
      go_ret3
      exact ⟨rfl, by assumption⟩

theorem ret_iub {a b c d : Int} {x y : Bool} (h : a = b) (h' : c = d) (h'' : x = y) : Ending.returned (.tuple #[.int .i64 a, .int .u64 c, .bool x]) = .returned (.tuple #[.int .i64 b, .int .u64 d, .bool y]) := by rw [h, h', h'']

set_option maxHeartbeats 1600000 in
theorem quot_yes (a : Int) (num den : Nat) (ha0 : -9223372036854775808 ≤ a) (ha1 : a ≤ 9223372036854775807) (hn : num ≤ 9223372036854775807) (hd0 : 1 ≤ den) (hd1 : den ≤ 9223372036854775807) (hbig : ¬ TooBig a.natAbs num den) (w : World) :
    Calls Tryd.prog 38 #[.int .i64 a, .int .u64 num, .int .u64 den] w fun e w' => (e = .returned (.tuple #[.int .i64 (a * num / den), .int .u64 (a * num % den), .bool true])) ∧ w.grownBy w' none := by
  obtain ⟨M, hM⟩ : ∃ M, M = a.natAbs := ⟨_, rfl⟩
  obtain ⟨H, hH⟩ : ∃ H, M * num / 18446744073709551616 = H := ⟨_, rfl⟩
  obtain ⟨L, hL⟩ : ∃ H, M * num % 18446744073709551616 = H := ⟨_, rfl⟩
  have hM64 : M ≤ 9223372036854775808 := by omega
  have hL64 : L < 18446744073709551616 := by rw [← hL]; exact Nat.mod_lt _ (by decide)
  have hback := back M num
  rw [hH, hL] at hback
  rw [← hM] at hbig
  obtain ⟨Q, hQ⟩ : ∃ Q, (H * 18446744073709551616 + L) / den = Q := ⟨_, rfl⟩
  obtain ⟨R, hR⟩ : ∃ Q, (H * 18446744073709551616 + L) % den = Q := ⟨_, rfl⟩
  have hQ' := hQ
  have hR' := hR
  rw [hback] at hQ' hR'
  have hQb : Q ≤ 4611686018427387904 := by unfold TooBig at hbig; rw [hQ'] at hbig; omega
  have hQi : (Q : Int) ≤ 4611686018427387904 := by omega
  have hRd : R < den := by rw [← hR]; exact Nat.mod_lt _ hd0
  have hHd : H < den := by
    rcases Nat.lt_or_ge H den with h | h
    · exact h
    · exfalso
      have h1 : den * 18446744073709551616 ≤ M * num := by omega
      have h2 : 18446744073709551616 ≤ M * num / den := by rw [Nat.le_div_iff_mul_le (by omega), Nat.mul_comm]; exact h1
      omega
  have hHi : (H : Int) < (den : Int) := by omega
  have hcast : ((M * num : Nat) : Int) = (M : Int) * (num : Int) := by push_cast; rfl
  have hq : ((M : Int) * (num : Int)) / (den : Int) = (Q : Int) := by rw [← hcast, ← Int.natCast_ediv, hQ']
  have hr : ((M : Int) * (num : Int)) % (den : Int) = (R : Int) := by rw [← hcast, ← Int.natCast_emod, hR']
  have HH := Lib.hid hH; have HL := Lib.hid hL; have HQ := Lib.hid hQ; have HR := Lib.hid hR
  have Hq := Lib.hid hq; have Hr := Lib.hid hr
  clear hH hL hback hQ hR hQb hbig hQ' hR' hcast hq hr
  by_cases hneg : a < 0
  · obtain ⟨e1, e2⟩ := neg_wrap a M hM hneg ha0
    obtain ⟨A1, hA1⟩ : ∃ A1, 18446744073709551616 - M = A1 := ⟨_, rfl⟩
    rw [hA1] at e1 e2
    have haM : a * (num : Int) = -((M : Int) * (num : Int)) := by
      have : a = -(M : Int) := by omega
      rw [this, Int.neg_mul]
    have HA := Lib.hid haM
    clear hA1 hM haM
    by_cases hz : R = 0
    · subst hz
      have hd := neg_div_of ((M : Int) * (num : Int)) den (by omega) (by rw [Hr.out]; rfl)
      have HD := Lib.hid hd; clear hd
      go_enter Tryd.func38, Tryd.ntmps38
      go_wp2_with (first | (go_at_call 59; refine (mul_any M num (by omega) (by omega) _ HH HL).mono ?_; rintro e w1 ⟨rfl, rfl⟩) | (go_at_call 60; refine (div_any _ (by omega) (by omega) hL64 HQ HR).mono ?_; rintro e w2 ⟨rfl, hg⟩))
      go_ret3
      exact ⟨ret_iub (by rw [HA.out, HD.out.1, Hq.out]) (by rw [HA.out, HD.out.2]) rfl, by assumption⟩
    · have hz1 : ((R : Int) == 0) = false := by simp; omega
      have hd := neg_div_of' ((M : Int) * (num : Int)) den (by omega) (by rw [Hr.out]; omega)
      have HD := Lib.hid hd; clear hd
      go_enter Tryd.func38, Tryd.ntmps38
      go_wp2_with (first | (go_at_call 59; refine (mul_any M num (by omega) (by omega) _ HH HL).mono ?_; rintro e w1 ⟨rfl, rfl⟩) | (go_at_call 60; refine (div_any _ (by omega) (by omega) hL64 HQ HR).mono ?_; rintro e w2 ⟨rfl, hg⟩))
      go_ret3
      exact ⟨ret_iub (by rw [HA.out, HD.out.1, Hq.out]) (by rw [HA.out, HD.out.2, Hr.out]) rfl, by assumption⟩
  · obtain rfl : a = (M : Int) := by omega
    clear hM
    go_enter Tryd.func38, Tryd.ntmps38
    go_wp2_with (first | (go_at_call 59; refine (mul_any M num (by omega) (by omega) _ HH HL).mono ?_; rintro e w1 ⟨rfl, rfl⟩) | (go_at_call 60; refine (div_any _ (by omega) (by omega) hL64 HQ HR).mono ?_; rintro e w2 ⟨rfl, hg⟩))
    go_ret3
    exact ⟨ret_iub (by rw [Hq.out]) (by rw [Hr.out]) rfl, by assumption⟩
end Go.Proofs.YtbacoopopokkfaaDoor
