/- The contracts of the reference's Scale and what it calls. -/
import Derived.Test.YtgkhhfojioepgaaQQuot
namespace Go.Proofs.Ytgkhhfojioepgaa
open Go.RowKit
set_option linter.unusedSimpArgs false
set_option linter.unusedVariables false

theorem outside_no (n lo hi : Int) (h1 : lo ≤ n) (h2 : n ≤ hi) (w : World) :
    Calls Try.prog 151 #[.int .i64 n, .int .i64 lo, .int .i64 hi] w fun e w' => e = .returned (.bool false) ∧ w = w' := by
  go_enter Try.func151, Try.ntmps151
  go_wp2
  go_ret
  exact ⟨ret_bool (by first | rfl | (simp; omega)), rfl⟩
theorem outside_yes (n lo hi : Int) (h : n < lo ∨ hi < n) (w : World) :
    Calls Try.prog 151 #[.int .i64 n, .int .i64 lo, .int .i64 hi] w fun e w' => e = .returned (.bool true) ∧ w = w' := by
  by_cases h1 : n < lo
  · clear h
    go_enter Try.func151, Try.ntmps151
    go_wp2
    go_ret
    exact ⟨rfl, rfl⟩
  · have h2 : hi < n := by omega
    clear h
    go_enter Try.func151, Try.ntmps151
    go_wp2
    go_ret
    exact ⟨ret_bool (by first | rfl | (simp; omega)), rfl⟩

theorem divI_any {hi lo y : Nat} (w : World) (hy : hi < y) (hy2 : y < 18446744073709551616) (hl : lo < 18446744073709551616) {Q : Int} {R : Nat} (hQ : Hid ((((hi * 18446744073709551616 + lo) / y : Nat) : Int) = Q)) (hR : Hid ((hi * 18446744073709551616 + lo) % y = R)) :
    Calls Try.prog 154 #[.int .u64 hi, .int .u64 lo, .int .u64 y] w fun e w' => e = .returned (.tuple #[.int .u64 Q, .int .u64 R]) ∧ w.grownBy w' none := by
  refine (div64_any hi lo y w hy hy2 hl).mono ?_
  rintro e w' ⟨h1, h2⟩
  exact ⟨by rw [h1, hQ.out, hR.out], h2⟩

theorem size_any (a : Int) (ha0 : -9223372036854775808 ≤ a) (ha1 : a ≤ 9223372036854775807) (w : World) :
    Calls Try.prog 153 #[.int .i64 a] w fun e w' => e = .returned (.int .u64 (a.natAbs : Nat)) ∧ w = w' := by
  obtain ⟨M, hM⟩ : ∃ M, M = a.natAbs := ⟨_, rfl⟩
  rw [← hM]
  by_cases hneg : a < 0
  · obtain ⟨e1, e2⟩ := neg_wrap a M hM hneg ha0
    obtain ⟨A1, hA1⟩ : ∃ A1, 18446744073709551616 - M = A1 := ⟨_, rfl⟩
    rw [hA1] at e1 e2
    clear hA1 hM
    go_enter Try.func153, Try.ntmps153
    go_wp2
    go_ret
    exact ⟨rfl, rfl⟩
  · obtain rfl : a = (M : Int) := by omega
    clear hM
    go_enter Try.func153, Try.ntmps153
    go_wp2
    go_ret
    exact ⟨rfl, rfl⟩

set_option maxHeartbeats 800000 in
theorem more_any (q : Int) (r d : Nat) (minus : Bool) (how : Int) (hq0 : 0 ≤ q) (h1 : 1 ≤ how) (h5 : how ≤ 5) (hr : (r : Int) < (d : Int)) (hd : (d : Int) ≤ 9223372036854775807) (w : World) {b : Bool} (hb : Hid (moreB q r d minus how = b)) :
    Calls Try.prog 155 #[.int .u64 q, .int .u64 r, .int .u64 d, .bool minus, .int .i64 how] w fun e w' => e = .returned (.bool b) ∧ w = w' := by
  have hb' := hb.out
  unfold moreB at hb'
  by_cases h0 : r = 0
  · subst h0
    rw [if_pos (by rfl)] at hb'
    subst hb'
    clear hb
    go_enter Try.func155, Try.ntmps155
    go_wp2
    go_ret
    exact ⟨rfl, rfl⟩
  · rw [if_neg (by omega)] at hb'
    have h0' : ((r : Int) == 0) = false := by simp; omega
    rcases (show how = 1 ∨ how = 2 ∨ how = 3 ∨ how = 4 ∨ how = 5 by omega) with rfl | rfl | rfl | rfl | rfl
    · have HB := Lib.hid hb'; clear hb' hb h0
      go_enter Try.func155, Try.ntmps155
      go_wp2
      go_ret
      exact ⟨ret_bool (by simpa using HB.out), rfl⟩
    · have HB := Lib.hid hb'; clear hb' hb h0
      go_enter Try.func155, Try.ntmps155
      go_wp2
      go_ret
      exact ⟨ret_bool (by simpa using HB.out), rfl⟩
    · have HB := Lib.hid hb'; clear hb' hb h0
      go_enter Try.func155, Try.ntmps155
      go_wp2
      go_ret
      exact ⟨ret_bool (by simpa using HB.out), rfl⟩
    all_goals
      by_cases hm : (r : Int) = (d : Int) - (r : Int)
      · have hm1 : ((r : Int) != (d : Int) - (r : Int)) = false := by simpa using hm
        rw [if_pos hm] at hb'
        have HB := Lib.hid hb'; clear hb' hb h0 hm
        go_enter Try.func155, Try.ntmps155
        go_wp2
        go_ret
        exact ⟨ret_bool (by rw [← HB.out]; first | (simp; done) | (simp; rw [Bool.eq_iff_iff]; simp)), rfl⟩
      · have hm1 : ((r : Int) != (d : Int) - (r : Int)) = true := by simpa using hm
        rw [if_neg hm] at hb'
        have HB := Lib.hid hb'; clear hb' hb h0 hm
        go_enter Try.func155, Try.ntmps155
        go_wp2
        go_ret
        exact ⟨ret_bool (by simpa using HB.out), rfl⟩

set_option maxHeartbeats 1600000 in
theorem refScale_any (a num den how : Int) (ha0 : -9223372036854775808 ≤ a) (ha1 : a ≤ 9223372036854775807) (hn0 : -9223372036854775808 ≤ num) (hn1 : num ≤ 9223372036854775807) (hd0 : -9223372036854775808 ≤ den) (hd1 : den ≤ 9223372036854775807) (w : World) :
    Calls Try.prog 113 #[.int .i64 a, .int .i64 num, .int .i64 den, .int .i64 how] w fun e w' => e = .returned (.tuple #[.int .i64 (scaleV a num den how).1, .int .i64 (scaleV a num den how).2]) ∧ w.grownBy w' none := by
  by_cases hk : how < 1 ∨ 5 < how
  · have hv : scaleV a num den how = (0, 7) := by unfold scaleV; rw [if_pos hk]
    have HV := Lib.hid hv; clear hv
    have HK := Lib.hid hk; clear hk
    go_enter Try.func113, Try.ntmps113
    go_wp2_with (go_at_call 151; refine (outside_yes _ _ _ HK.out _).mono ?_; rintro e w1 ⟨rfl, rfl⟩)
    go_ret2
    exact ⟨ret_ii (by rw [HV.out]) (by rw [HV.out]), grown_refl _ _⟩
  have hk1 : 1 ≤ how := by omega
  have hk5 : how ≤ 5 := by omega
  clear hk
  by_cases hdn : den < 1
  · have hv : scaleV a num den how = (0, 1) := by unfold scaleV; rw [if_neg (by omega), if_pos (.inl (by omega))]
    have HV := Lib.hid hv; clear hv
    go_enter Try.func113, Try.ntmps113
    go_wp2_with (go_at_call 151; refine (outside_no _ _ _ hk1 hk5 _).mono ?_; rintro e w1 ⟨rfl, rfl⟩)
    go_ret2
    exact ⟨ret_ii (by rw [HV.out]) (by rw [HV.out]), grown_refl _ _⟩
  by_cases hnn : num < 0
  · have hv : scaleV a num den how = (0, 1) := by unfold scaleV; rw [if_neg (by omega), if_pos (.inr (by omega))]
    have HV := Lib.hid hv; clear hv
    go_enter Try.func113, Try.ntmps113
    go_wp2_with (go_at_call 151; refine (outside_no _ _ _ hk1 hk5 _).mono ?_; rintro e w1 ⟨rfl, rfl⟩)
    go_ret2
    exact ⟨ret_ii (by rw [HV.out]) (by rw [HV.out]), grown_refl _ _⟩
  obtain ⟨n, rfl⟩ : ∃ n : Nat, (n : Int) = num := ⟨num.toNat, by omega⟩
  obtain ⟨d, rfl⟩ : ∃ n : Nat, (n : Int) = den := ⟨den.toNat, by omega⟩
  have hsc := scale_ref a n d how hk1 hk5 (by omega) (by omega)
  have hsz := size_any a ha0 ha1
  have hM64 : ((a.natAbs : Nat) : Int) ≤ 9223372036854775808 := by omega
  unfold quoV at hsc
  generalize a.natAbs = M at hsc hsz hM64
  obtain ⟨H, hH⟩ : ∃ H, M * n / 18446744073709551616 = H := ⟨_, rfl⟩
  obtain ⟨L, hL⟩ : ∃ H, M * n % 18446744073709551616 = H := ⟨_, rfl⟩
  have hL64 : L < 18446744073709551616 := by rw [← hL]; exact Nat.mod_lt _ (by decide)
  have hback := back M n
  rw [hH, hL] at hback
  obtain ⟨Q, hQ⟩ : ∃ Q : Int, (((H * 18446744073709551616 + L) / d : Nat) : Int) = Q := ⟨_, rfl⟩
  obtain ⟨R, hR⟩ : ∃ Q, (H * 18446744073709551616 + L) % d = Q := ⟨_, rfl⟩
  have hRd : (R : Int) < (d : Int) := by have : R < d := by rw [← hR]; exact Nat.mod_lt _ (by omega)
                                         omega
  have eN : (M : Int) * (n : Int) = ((H * 18446744073709551616 + L : Nat) : Int) := by rw [hback]; push_cast; rfl
  have eQ : ((M : Int) * (n : Int)) / (d : Int) = Q := by rw [eN, ← Int.natCast_ediv, hQ]
  have eR : ((M : Int) * (n : Int)) % (d : Int) = (R : Int) := by rw [eN, ← Int.natCast_emod, hR]
  rw [eQ, eR] at hsc
  have HSZ := Lib.hid hsz; clear hsz
  have HH := Lib.hid hH; have HL := Lib.hid hL; have HB := Lib.hid hback; have HQ := Lib.hid hQ; have HR := Lib.hid hR
  clear hH hL hback hQ hR eN eQ eR
  by_cases hhd : (d : Int) ≤ (H : Int)
  · have hv : scaleV a n d how = (0, 9) := by
      rw [hsc, if_pos]
      have h1 : d * 18446744073709551616 ≤ H * 18446744073709551616 + L := by omega
      have h2 : 18446744073709551616 ≤ (H * 18446744073709551616 + L) / d := by rw [Nat.le_div_iff_mul_le (by omega), Nat.mul_comm]; exact h1
      have h3 := HQ.out
      unfold big
      split <;> omega
    have HV := Lib.hid hv; clear hv hsc
    go_enter Try.func113, Try.ntmps113
    go_wp2_with (first | (go_at_call 151; refine (outside_no _ _ _ hk1 hk5 _).mono ?_; rintro e w1 ⟨rfl, rfl⟩) | (go_at_call 153; refine (HSZ.out _).mono ?_; rintro e w1 ⟨rfl, rfl⟩) | (go_at_call 152; refine (mul_any M n (by omega) (by omega) _ HH HL).mono ?_; rintro e w1 ⟨rfl, rfl⟩))
    go_ret2
    exact ⟨ret_ii (by rw [HV.out]) (by rw [HV.out]), grown_refl _ _⟩
  · have hQ64 : Q ≤ 18446744073709551615 := by
      have : (H * 18446744073709551616 + L) / d < 18446744073709551616 := by rw [Nat.div_lt_iff_lt_mul (by omega)]; omega
      have h3 := HQ.out
      omega
    have HL64 := Lib.hid hL64; clear hL64
    have hQ0 : 0 ≤ Q := by rw [← HQ.out]; exact Int.natCast_nonneg _
    have e0 : ∀ x : Int, x + (if false = true then 1 else 0) = x := fun x => by simp
    have e1 : ∀ x : Int, x + (if true = true then 1 else 0) = x + 1 := fun x => by simp
    by_cases hneg : a < 0
    · rw [decide_eq_true hneg, if_pos hneg] at hsc
      rcases hm : moreB Q R d true how with _ | _
      · rw [hm, e0] at hsc
        have HM := Lib.hid hm; clear hm e0 e1
        by_cases hbg : (4611686018427387904 : Int) < Q
        · rw [if_pos (by unfold big; omega)] at hsc
          skip
          have HV := Lib.hid hsc; clear hsc
          go_enter Try.func113, Try.ntmps113
          go_wp2_with (first | (go_at_call 151; refine (outside_no _ _ _ hk1 hk5 _).mono ?_; rintro e w1 ⟨rfl, rfl⟩) | (go_at_call 153; refine (HSZ.out _).mono ?_; rintro e w1 ⟨rfl, rfl⟩) | (go_at_call 152; refine (mul_any M n (by omega) (by omega) _ HH HL).mono ?_; rintro e w1 ⟨rfl, rfl⟩) | (go_at_call 154; refine (divI_any _ (by omega) (by omega) HL64.out HQ HR).mono ?_; rintro e w2 ⟨rfl, hg⟩) | (go_at_call 155; refine (more_any Q R d _ how hQ0 hk1 hk5 hRd (by omega) _ HM).mono ?_; rintro e w3 ⟨rfl, rfl⟩))
          go_ret2
          exact ⟨ret_ii (by rw [HV.out]) (by rw [HV.out]), by assumption⟩
        · rw [if_neg (by unfold big; omega)] at hsc
          skip
          have HV := Lib.hid hsc; clear hsc
          go_enter Try.func113, Try.ntmps113
          go_wp2_with (first | (go_at_call 151; refine (outside_no _ _ _ hk1 hk5 _).mono ?_; rintro e w1 ⟨rfl, rfl⟩) | (go_at_call 153; refine (HSZ.out _).mono ?_; rintro e w1 ⟨rfl, rfl⟩) | (go_at_call 152; refine (mul_any M n (by omega) (by omega) _ HH HL).mono ?_; rintro e w1 ⟨rfl, rfl⟩) | (go_at_call 154; refine (divI_any _ (by omega) (by omega) HL64.out HQ HR).mono ?_; rintro e w2 ⟨rfl, hg⟩) | (go_at_call 155; refine (more_any Q R d _ how hQ0 hk1 hk5 hRd (by omega) _ HM).mono ?_; rintro e w3 ⟨rfl, rfl⟩))
          go_ret2
          exact ⟨ret_ii (by rw [HV.out]) (by rw [HV.out]), by assumption⟩
      · rw [hm, e1] at hsc
        have HM := Lib.hid hm; clear hm e0 e1
        by_cases hmx : Q = 18446744073709551615
        · rw [if_pos (by unfold big; omega)] at hsc
          have ew : IntKind.u64.wrap (Q + 1) = 0 := by rw [IntKind.wrap_u64]; omega
          clear hmx
          have HV := Lib.hid hsc; clear hsc
          go_enter Try.func113, Try.ntmps113
          go_wp2_with (first | (go_at_call 151; refine (outside_no _ _ _ hk1 hk5 _).mono ?_; rintro e w1 ⟨rfl, rfl⟩) | (go_at_call 153; refine (HSZ.out _).mono ?_; rintro e w1 ⟨rfl, rfl⟩) | (go_at_call 152; refine (mul_any M n (by omega) (by omega) _ HH HL).mono ?_; rintro e w1 ⟨rfl, rfl⟩) | (go_at_call 154; refine (divI_any _ (by omega) (by omega) HL64.out HQ HR).mono ?_; rintro e w2 ⟨rfl, hg⟩) | (go_at_call 155; refine (more_any Q R d _ how hQ0 hk1 hk5 hRd (by omega) _ HM).mono ?_; rintro e w3 ⟨rfl, rfl⟩))
          go_ret2
          exact ⟨ret_ii (by rw [HV.out]) (by rw [HV.out]), by assumption⟩
        · have hmx1 : Q ≤ 18446744073709551614 := by omega
          have hnz : (Q + 1 == 0) = false := by simp; omega
          clear hmx
          by_cases hbg : (4611686018427387904 : Int) < Q + 1
          · rw [if_pos (by unfold big; omega)] at hsc
            skip
            have HV := Lib.hid hsc; clear hsc
            go_enter Try.func113, Try.ntmps113
            go_wp2_with (first | (go_at_call 151; refine (outside_no _ _ _ hk1 hk5 _).mono ?_; rintro e w1 ⟨rfl, rfl⟩) | (go_at_call 153; refine (HSZ.out _).mono ?_; rintro e w1 ⟨rfl, rfl⟩) | (go_at_call 152; refine (mul_any M n (by omega) (by omega) _ HH HL).mono ?_; rintro e w1 ⟨rfl, rfl⟩) | (go_at_call 154; refine (divI_any _ (by omega) (by omega) HL64.out HQ HR).mono ?_; rintro e w2 ⟨rfl, hg⟩) | (go_at_call 155; refine (more_any Q R d _ how hQ0 hk1 hk5 hRd (by omega) _ HM).mono ?_; rintro e w3 ⟨rfl, rfl⟩))
            go_ret2
            exact ⟨ret_ii (by rw [HV.out]) (by rw [HV.out]), by assumption⟩
          · rw [if_neg (by unfold big; omega)] at hsc
            skip
            have HV := Lib.hid hsc; clear hsc
            go_enter Try.func113, Try.ntmps113
            go_wp2_with (first | (go_at_call 151; refine (outside_no _ _ _ hk1 hk5 _).mono ?_; rintro e w1 ⟨rfl, rfl⟩) | (go_at_call 153; refine (HSZ.out _).mono ?_; rintro e w1 ⟨rfl, rfl⟩) | (go_at_call 152; refine (mul_any M n (by omega) (by omega) _ HH HL).mono ?_; rintro e w1 ⟨rfl, rfl⟩) | (go_at_call 154; refine (divI_any _ (by omega) (by omega) HL64.out HQ HR).mono ?_; rintro e w2 ⟨rfl, hg⟩) | (go_at_call 155; refine (more_any Q R d _ how hQ0 hk1 hk5 hRd (by omega) _ HM).mono ?_; rintro e w3 ⟨rfl, rfl⟩))
            go_ret2
            exact ⟨ret_ii (by rw [HV.out]) (by rw [HV.out]), by assumption⟩
    · rw [decide_eq_false hneg, if_neg hneg] at hsc
      have hnb : decide (a < 0) = false := decide_eq_false hneg
      rcases hm : moreB Q R d false how with _ | _
      · rw [hm, e0] at hsc
        have HM := Lib.hid hm; clear hm e0 e1
        by_cases hbg : (4611686018427387904 : Int) < Q
        · rw [if_pos (by unfold big; omega)] at hsc
          skip
          have HV := Lib.hid hsc; clear hsc
          go_enter Try.func113, Try.ntmps113
          go_wp2_with (first | (go_at_call 151; refine (outside_no _ _ _ hk1 hk5 _).mono ?_; rintro e w1 ⟨rfl, rfl⟩) | (go_at_call 153; refine (HSZ.out _).mono ?_; rintro e w1 ⟨rfl, rfl⟩) | (go_at_call 152; refine (mul_any M n (by omega) (by omega) _ HH HL).mono ?_; rintro e w1 ⟨rfl, rfl⟩) | (go_at_call 154; refine (divI_any _ (by omega) (by omega) HL64.out HQ HR).mono ?_; rintro e w2 ⟨rfl, hg⟩) | (go_at_call 155; refine (more_any Q R d _ how hQ0 hk1 hk5 hRd (by omega) _ HM).mono ?_; rintro e w3 ⟨rfl, rfl⟩))
          go_ret2
          exact ⟨ret_ii (by rw [HV.out]) (by rw [HV.out]), by assumption⟩
        · rw [if_neg (by unfold big; omega)] at hsc
          skip
          have HV := Lib.hid hsc; clear hsc
          go_enter Try.func113, Try.ntmps113
          go_wp2_with (first | (go_at_call 151; refine (outside_no _ _ _ hk1 hk5 _).mono ?_; rintro e w1 ⟨rfl, rfl⟩) | (go_at_call 153; refine (HSZ.out _).mono ?_; rintro e w1 ⟨rfl, rfl⟩) | (go_at_call 152; refine (mul_any M n (by omega) (by omega) _ HH HL).mono ?_; rintro e w1 ⟨rfl, rfl⟩) | (go_at_call 154; refine (divI_any _ (by omega) (by omega) HL64.out HQ HR).mono ?_; rintro e w2 ⟨rfl, hg⟩) | (go_at_call 155; refine (more_any Q R d _ how hQ0 hk1 hk5 hRd (by omega) _ HM).mono ?_; rintro e w3 ⟨rfl, rfl⟩))
          go_ret2
          exact ⟨ret_ii (by rw [HV.out]) (by rw [HV.out]), by assumption⟩
      · rw [hm, e1] at hsc
        have HM := Lib.hid hm; clear hm e0 e1
        by_cases hmx : Q = 18446744073709551615
        · rw [if_pos (by unfold big; omega)] at hsc
          have ew : IntKind.u64.wrap (Q + 1) = 0 := by rw [IntKind.wrap_u64]; omega
          clear hmx
          have HV := Lib.hid hsc; clear hsc
          go_enter Try.func113, Try.ntmps113
          go_wp2_with (first | (go_at_call 151; refine (outside_no _ _ _ hk1 hk5 _).mono ?_; rintro e w1 ⟨rfl, rfl⟩) | (go_at_call 153; refine (HSZ.out _).mono ?_; rintro e w1 ⟨rfl, rfl⟩) | (go_at_call 152; refine (mul_any M n (by omega) (by omega) _ HH HL).mono ?_; rintro e w1 ⟨rfl, rfl⟩) | (go_at_call 154; refine (divI_any _ (by omega) (by omega) HL64.out HQ HR).mono ?_; rintro e w2 ⟨rfl, hg⟩) | (go_at_call 155; refine (more_any Q R d _ how hQ0 hk1 hk5 hRd (by omega) _ HM).mono ?_; rintro e w3 ⟨rfl, rfl⟩))
          go_ret2
          exact ⟨ret_ii (by rw [HV.out]) (by rw [HV.out]), by assumption⟩
        · have hmx1 : Q ≤ 18446744073709551614 := by omega
          have hnz : (Q + 1 == 0) = false := by simp; omega
          clear hmx
          by_cases hbg : (4611686018427387904 : Int) < Q + 1
          · rw [if_pos (by unfold big; omega)] at hsc
            skip
            have HV := Lib.hid hsc; clear hsc
            go_enter Try.func113, Try.ntmps113
            go_wp2_with (first | (go_at_call 151; refine (outside_no _ _ _ hk1 hk5 _).mono ?_; rintro e w1 ⟨rfl, rfl⟩) | (go_at_call 153; refine (HSZ.out _).mono ?_; rintro e w1 ⟨rfl, rfl⟩) | (go_at_call 152; refine (mul_any M n (by omega) (by omega) _ HH HL).mono ?_; rintro e w1 ⟨rfl, rfl⟩) | (go_at_call 154; refine (divI_any _ (by omega) (by omega) HL64.out HQ HR).mono ?_; rintro e w2 ⟨rfl, hg⟩) | (go_at_call 155; refine (more_any Q R d _ how hQ0 hk1 hk5 hRd (by omega) _ HM).mono ?_; rintro e w3 ⟨rfl, rfl⟩))
            go_ret2
            exact ⟨ret_ii (by rw [HV.out]) (by rw [HV.out]), by assumption⟩
          · rw [if_neg (by unfold big; omega)] at hsc
            skip
            have HV := Lib.hid hsc; clear hsc
            go_enter Try.func113, Try.ntmps113
            go_wp2_with (first | (go_at_call 151; refine (outside_no _ _ _ hk1 hk5 _).mono ?_; rintro e w1 ⟨rfl, rfl⟩) | (go_at_call 153; refine (HSZ.out _).mono ?_; rintro e w1 ⟨rfl, rfl⟩) | (go_at_call 152; refine (mul_any M n (by omega) (by omega) _ HH HL).mono ?_; rintro e w1 ⟨rfl, rfl⟩) | (go_at_call 154; refine (divI_any _ (by omega) (by omega) HL64.out HQ HR).mono ?_; rintro e w2 ⟨rfl, hg⟩) | (go_at_call 155; refine (more_any Q R d _ how hQ0 hk1 hk5 hRd (by omega) _ HM).mono ?_; rintro e w3 ⟨rfl, rfl⟩))
            go_ret2
            exact ⟨ret_ii (by rw [HV.out]) (by rw [HV.out]), by assumption⟩
end Go.Proofs.Ytgkhhfojioepgaa
