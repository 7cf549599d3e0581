/- The contract of math/bits.Div64, where its divisor is greater than the high word. -/
import Derived.Test.YtbacoopopokkfaaDoorQDivCore
import Derived.Test.YtbacoopopokkfaaDoorQTake
import Derived.Lib.ItoaNum
import Derived.Laws.BitsAllLaws
namespace Go.Proofs.YtbacoopopokkfaaDoor
open Go.RowKit
set_option linter.unusedSimpArgs false
set_option linter.unusedVariables false

theorem u64_wrap (n m : Nat) (h : n % 18446744073709551616 = m) : IntKind.u64.wrap (n : Int) = (m : Int) := by rw [IntKind.wrap_u64]; omega
theorem u64_self (n : Nat) (h : n < 18446744073709551616) : IntKind.u64.wrap (n : Int) = (n : Int) := u64_wrap n n (Nat.mod_eq_of_lt h)
theorem u64_sub (a b c : Nat) (h : (c + b) % 18446744073709551616 = a % 18446744073709551616) (hc : c < 18446744073709551616) : IntKind.u64.wrap ((a : Int) - (b : Int)) = (c : Int) := by rw [IntKind.wrap_u64]; omega

/-- What the shifts are. -/
theorem shifted (y L : Nat) (h1 : 2 ^ (L - 1) ≤ y) (h2 : y < 2 ^ L) (hL : 1 ≤ L) (h64 : L ≤ 64) :
    9223372036854775808 ≤ y * 2 ^ (64 - L) ∧ y * 2 ^ (64 - L) < 18446744073709551616 := by
  have e1 : (2 : Nat) ^ (L - 1) * 2 ^ (64 - L) = 9223372036854775808 := by rw [← Nat.pow_add, show L - 1 + (64 - L) = 63 by omega]
  have e2 : (2 : Nat) ^ L * 2 ^ (64 - L) = 18446744073709551616 := by rw [← Nat.pow_add, show L + (64 - L) = 64 by omega]
  have hp : 0 < 2 ^ (64 - L) := Nat.two_pow_pos _
  constructor
  · rw [← e1]; exact Nat.mul_le_mul_right _ h1
  · rw [← e2]; exact Nat.mul_lt_mul_of_pos_right h2 hp

theorem parted (lo L : Nat) (hl : lo < 18446744073709551616) (hL : 1 ≤ L) (h64 : L ≤ 64) :
    lo / 2 ^ L < 2 ^ (64 - L) ∧ lo * 2 ^ (64 - L) = lo / 2 ^ L * 18446744073709551616 + lo * 2 ^ (64 - L) % 18446744073709551616 := by
  have e2 : (2 : Nat) ^ (64 - L) * 2 ^ L = 18446744073709551616 := by rw [← Nat.pow_add, show 64 - L + L = 64 by omega]
  have hp : 0 < 2 ^ (64 - L) := Nat.two_pow_pos _
  constructor
  · rw [Nat.div_lt_iff_lt_mul (Nat.two_pow_pos _), e2]; exact hl
  · have : lo * 2 ^ (64 - L) / 18446744073709551616 = lo / 2 ^ L := by
      rw [← e2, Nat.mul_comm (2 ^ (64 - L)) (2 ^ L)]; exact Nat.mul_div_mul_right _ _ hp
    have hm := Nat.div_add_mod (lo * 2 ^ (64 - L)) 18446744073709551616
    rw [this] at hm
    omega

theorem or_add (a t s : Nat) (ha : a * 2 ^ s < 18446744073709551616) (ht : t < 2 ^ s) (hs : s ≤ 63) : bits .or .u64 ((a * 2 ^ s : Nat) : Int) (t : Int) = ((a * 2 ^ s + t : Nat) : Int) := by
  have hb : t < 18446744073709551616 := Nat.lt_of_lt_of_le ht (by
    have : (2 : Nat) ^ s ≤ 2 ^ 63 := Nat.pow_le_pow_right (by decide) hs
    omega)
  rw [u64_or_nat _ _ ha hb]
  rw [nat_join s _ _ (Nat.mul_mod_left _ _) ht]

theorem mask32 (n : Nat) (h : n < 18446744073709551616) : bits .and .u64 (n : Int) 4294967295 = ((n % 4294967296 : Nat) : Int) := by
  have := u64_and_nat n 4294967295 h (by decide)
  rw [nat_mask32] at this
  exact this
theorem cast_two_pow_mul (a s : Nat) : ((a * 2 ^ s : Nat) : Int) = (a : Int) * 2 ^ s := by push_cast; rfl
theorem cast_div_two_pow (a s : Nat) : (a : Int) / 2 ^ s = ((a / 2 ^ s : Nat) : Int) := by push_cast; rfl

theorem digits_of (Q1 U d1 Y : Nat) (hY : Y < 18446744073709551616) (hU : U < Y) (hd : d1 < 4294967296) (hq : (U * 4294967296 + d1) / Y = Q1) :
    Q1 < 4294967296 ∧ U * 4294967296 + d1 = Q1 * Y + (U * 4294967296 + d1) % Y ∧ (U * 4294967296 + d1) % Y < Y := by
  have hm := Nat.div_add_mod (U * 4294967296 + d1) Y
  have hl := Nat.mod_lt (U * 4294967296 + d1) (show 0 < Y by omega)
  rw [hq, Nat.mul_comm] at hm
  refine ⟨?_, by omega, hl⟩
  rw [← hq, Nat.div_lt_iff_lt_mul (by omega)]
  omega

set_option maxHeartbeats 800000 in
theorem div64_any (hi lo y : Nat) (w : World) (hy : hi < y) (hy2 : y < 18446744073709551616) (hl : lo < 18446744073709551616) :
    Calls Tryd.prog 60 #[.int .u64 hi, .int .u64 lo, .int .u64 y] w fun e w' => e = .returned (.tuple #[.int .u64 ((hi * 18446744073709551616 + lo) / y : Nat), .int .u64 ((hi * 18446744073709551616 + lo) % y : Nat)]) ∧ w.grownBy w' none := by
  rcases Nat.eq_zero_or_pos hi with h0 | hpos
  · subst h0
    have hb : ((y : Int) == 0) = false := by simp; omega
    have hq : (lo / y) % 18446744073709551616 = lo / y := Nat.mod_eq_of_lt (Nat.lt_of_le_of_lt (Nat.div_le_self _ _) hl)
    have eq : IntKind.u64.wrap ((lo : Int) / (y : Int)) = ((lo / y : Nat) : Int) := by rw [← Int.natCast_ediv]; exact u64_wrap _ _ hq
    clear hq
    go_enter Tryd.func60, Tryd.ntmps60
    go_wp2
    go_quiet (fail)
    go_wp2
    go_ret2
    refine ⟨ret_uu ?_ ?_, grown_drewN _ _ _⟩
    · simp
    · simp
  · obtain ⟨L, hLd⟩ : ∃ L, L = Lib.bitLen y := ⟨_, rfl⟩
    have hbd := Lib.bitLenAux_bounds 64 y hy2 (by omega)
    have hL64 : L ≤ 64 := by rw [hLd]; exact Lib.bitLen_le y 64 (by omega) (by omega)
    rw [show Lib.bitLenAux 64 y = L from hLd.symm] at hbd
    obtain ⟨hL1, hlo2, hhi2⟩ := hbd
    obtain ⟨hY1, hY2⟩ := shifted y L hlo2 hhi2 hL1 hL64
    obtain ⟨hT, hN⟩ := parted lo L hl hL1 hL64
    have hlz : ∀ w, Calls Tryd.prog 77 #[.int .u64 y] w fun e w' => e = .returned (.int .i64 ((64 - L : Nat) : Int)) ∧ w = w' := by
      intro w
      refine (Tryd.bits_LeadingZeros64 y w (by omega) (by omega)).mono ?_
      rintro e w' ⟨h1, h2⟩
      refine ⟨?_, h2.symm⟩
      rw [h1, Int.toNat_natCast, ← hLd]
      exact ret_int (by omega)
    obtain ⟨s, hs⟩ : ∃ s, s = 64 - L := ⟨_, rfl⟩
    have hsL : 64 - s = L := by omega
    rw [← hs] at hY1 hY2 hT hN hlz
    have hp : 0 < 2 ^ s := Nat.two_pow_pos _
    obtain ⟨Y, hY⟩ : ∃ Y, Y = y * 2 ^ s := ⟨_, rfl⟩
    obtain ⟨T, hTd⟩ : ∃ T, T = lo / 2 ^ L := ⟨_, rfl⟩
    obtain ⟨N, hNd⟩ : ∃ N, N = lo * 2 ^ s % 18446744073709551616 := ⟨_, rfl⟩
    have hU : hi * 2 ^ s + T < Y := by
      have : (hi + 1) * 2 ^ s ≤ y * 2 ^ s := Nat.mul_le_mul_right _ hy
      rw [Nat.add_mul] at this
      omega
    have hM : (hi * 18446744073709551616 + lo) * 2 ^ s = (hi * 2 ^ s + T) * 18446744073709551616 + N := by
      rw [Nat.add_mul, Nat.mul_right_comm, hN, ← hTd, ← hNd]; omega
    have hN64 : N < 18446744073709551616 := by rw [hNd]; exact Nat.mod_lt _ (by decide)
    have hH : hi * 2 ^ s < 18446744073709551616 := by omega
    have hor := or_add hi T s hH (by rw [hTd]; exact hT) (by omega)
    have hdiv := div_shift (hi * 18446744073709551616 + lo) y s (by omega)
    rw [hM, ← hY] at hdiv
    obtain ⟨U, hUd⟩ : ∃ U, U = hi * 2 ^ s + T := ⟨_, rfl⟩
    rw [← hUd] at hU hM hor hdiv
    rw [← hY] at hY1 hY2
    have hsp : U * 18446744073709551616 + N = (U * 4294967296 + N / 4294967296) * 4294967296 + N % 4294967296 := by omega
    obtain ⟨g1, g2, g3⟩ := digits_of _ U (N / 4294967296) Y hY2 hU (by omega) rfl
    obtain ⟨Q1, hQ1⟩ : ∃ Q, Q = (U * 4294967296 + N / 4294967296) / Y := ⟨_, rfl⟩
    obtain ⟨U2, hU2⟩ : ∃ Q, Q = (U * 4294967296 + N / 4294967296) % Y := ⟨_, rfl⟩
    rw [← hQ1] at g1 g2
    rw [← hU2] at g2 g3
    obtain ⟨k1, k2, k3⟩ := digits_of _ U2 (N % 4294967296) Y hY2 g3 (by omega) rfl
    obtain ⟨Q2, hQ2⟩ : ∃ Q, Q = (U2 * 4294967296 + N % 4294967296) / Y := ⟨_, rfl⟩
    obtain ⟨R2, hR2⟩ : ∃ Q, Q = (U2 * 4294967296 + N % 4294967296) % Y := ⟨_, rfl⟩
    rw [← hQ2] at k1 k2
    rw [← hR2] at k2 k3
    have htwo := div_two Y (U * 4294967296 + N / 4294967296) (N % 4294967296) (by omega)
    rw [← hsp, ← hQ1, ← hU2, ← hQ2, ← hR2] at htwo
    rw [htwo.1, htwo.2] at hdiv
    have hys : Y = Y / 4294967296 * 4294967296 + Y % 4294967296 := by omega
    have hst1 := div_start (Y / 4294967296) (Y % 4294967296) U (N / 4294967296) (by omega) (by omega) (by omega) (by omega)
    have hst2 := div_start (Y / 4294967296) (Y % 4294967296) U2 (N % 4294967296) (by omega) (by omega) (by omega) (by omega)
    have m1 : U / (Y / 4294967296) * (Y / 4294967296) ≤ U := Nat.div_mul_le_self _ _
    have m2 : U2 / (Y / 4294967296) * (Y / 4294967296) ≤ U2 := Nat.div_mul_le_self _ _
    have n1 : U / (Y / 4294967296) ≤ U := Nat.div_le_self _ _
    have n2 : U2 / (Y / 4294967296) ≤ U2 := Nat.div_le_self _ _
    rw [← hdiv.1, ← hdiv.2]
    refine (div_core hi lo y s Y (Y / 4294967296) (Y % 4294967296) (hi * 2 ^ s) U N (N / 4294967296) (N % 4294967296) (U / (Y / 4294967296)) (U / (Y / 4294967296) * (Y / 4294967296)) (U - U / (Y / 4294967296) * (Y / 4294967296)) Q1
      (U * 4294967296 % 18446744073709551616) ((U * 4294967296 % 18446744073709551616 + N / 4294967296) % 18446744073709551616) (Q1 * Y % 18446744073709551616) U2
      (U2 / (Y / 4294967296)) (U2 / (Y / 4294967296) * (Y / 4294967296)) (U2 - U2 / (Y / 4294967296) * (Y / 4294967296)) Q2 (Q1 * 4294967296) (Q1 * 4294967296 + Q2)
      (U2 * 4294967296 % 18446744073709551616) ((U2 * 4294967296 % 18446744073709551616 + N % 4294967296) % 18446744073709551616) (Q2 * Y % 18446744073709551616) R2 (R2 / 2 ^ s) w hpos hy hlz (hs63 := ?hs63) (eY := ?eY) (e1 := ?e1) (e0 := ?e0) (eH := ?eH) (eN := ?eN) (eU := ?eU) (eN1 := ?eN1) (eN0 := ?eN0) (hyy1 := ?hyy1) (hyy0 := ?hyy0) (hd1 := ?hd1) (hd0 := ?hd0) (hy1 := ?hy1) (hUY := ?hUY) (eq0 := ?eq0) (ep0 := ?ep0) (er0 := ?er0) (eA := ?eA) (eB := ?eB) (eC := ?eC) (eD := ?eD) (eq2 := ?eq2) (ep2 := ?ep2) (er2 := ?er2) (eF := ?eF) (eG := ?eG) (eA2 := ?eA2) (eB2 := ?eB2) (eC2 := ?eC2) (eD2 := ?eD2) (eE := ?eE) (hUY2 := ?hUY2) (hi2 := ?hi2) (hr2 := ?hr2) (HQ2 := ?HQ2) (hi1 := ?hi1) (hr0 := ?hr0) (HQ1 := ?HQ1)).mono ?_
    case hs63 => omega
    case eY => rw [← cast_two_pow_mul y s, ← hY]; exact u64_self _ hY2
    case e1 => exact (Int.natCast_ediv _ _).symm
    case e0 => exact mask32 _ hY2
    case eH => rw [← cast_two_pow_mul]; exact u64_self _ hH
    case eN => rw [← cast_two_pow_mul, hNd]; exact u64_wrap _ _ rfl
    case eU => rw [hsL, cast_div_two_pow, ← hTd]; exact hor
    case eN1 => exact (Int.natCast_ediv _ _).symm
    case eN0 => exact mask32 _ hN64
    case hyy1 => omega
    case hyy0 => omega
    case hd1 => omega
    case hd0 => omega
    case hy1 => omega
    case hUY => omega
    case eq0 => rw [← Int.natCast_ediv]; exact u64_self _ (by omega)
    case ep0 => rw [← Int.natCast_mul]; exact u64_self _ (by omega)
    case er0 => exact u64_sub _ _ _ (by omega) (by omega)
    case eA => exact u64_wrap (U * 4294967296) _ rfl
    case eB => exact u64_wrap (U * 4294967296 % 18446744073709551616 + N / 4294967296) _ rfl
    case eC => rw [← Int.natCast_mul]; exact u64_wrap _ _ rfl
    case eD => exact u64_sub _ _ _ (by omega) (by omega)
    case eq2 => rw [← Int.natCast_ediv]; exact u64_self _ (by omega)
    case ep2 => rw [← Int.natCast_mul]; exact u64_self _ (by omega)
    case er2 => exact u64_sub _ _ _ (by omega) (by omega)
    case eF => exact u64_self (Q1 * 4294967296) (by omega)
    case eG => exact u64_self (Q1 * 4294967296 + Q2) (by omega)
    case eA2 => exact u64_wrap (U2 * 4294967296) _ rfl
    case eB2 => exact u64_wrap (U2 * 4294967296 % 18446744073709551616 + N % 4294967296) _ rfl
    case eC2 => rw [← Int.natCast_mul]; exact u64_wrap _ _ rfl
    case eD2 => exact u64_sub _ _ _ (by omega) (by omega)
    case eE => exact cast_div_two_pow _ _
    case hUY2 => omega
    case hi2 => exact hst2.1
    case hr2 => omega
    case HQ2 => show _ = _; rw [← hys]; exact hQ2.symm
    case hi1 => exact hst1.1
    case hr0 => omega
    case HQ1 => show _ = _; rw [← hys]; exact hQ1.symm
    rintro e w' ⟨h1, rfl⟩
    exact ⟨h1, grown_refl _ _⟩
end Go.Proofs.YtbacoopopokkfaaDoor
