/- Texts that all laws of this seat use, one behind the other. -/
import Derived.Test.YtgkhhfojioepgaaBaseD
import Derived.Laws.EntriesVeiled
import Derived.Test.YtgkhhfojioepgaaBaseC
import Derived.Test.YtgkhhfojioepgaaBaseB
import Derived.Laws.Rows
import Derived.Deep.RegionHeld3
import Derived.Test.YtgkhhfojioepgaaShelf
namespace Go.Proofs.Ytgkhhfojioepgaa
open Go.RowKit
set_option linter.unusedSimpArgs false
set_option linter.unusedVariables false

theorem outside_no (n lo hi : Int) (h1 : lo ≤ n) (h2 : n ≤ hi) (w : World) :
    Calls Try.prog 151 #[.int .i64 n, .int .i64 lo, .int .i64 hi] w fun e w' => e = .returned (.bool false) ∧ w = w' := by
  go_enter Try.func151, Try.ntmps151
  go_wp2
  go_ret
  exact ⟨ret_bool (by first | rfl | (simp; omega)), rfl⟩
theorem outside_yes (n lo hi : Int) (h : n < lo ∨ hi < n) (w : World) :
    Calls Try.prog 151 #[.int .i64 n, .int .i64 lo, .int .i64 hi] w fun e w' => e = .returned (.bool true) ∧ w = w' := by
  by_cases h1 : n < lo
  · clear h
    go_enter Try.func151, Try.ntmps151
    go_wp2
    go_ret
    exact ⟨rfl, rfl⟩
  · have h2 : hi < n := by omega
    clear h
    go_enter Try.func151, Try.ntmps151
    go_wp2
    go_ret
    exact ⟨ret_bool (by first | rfl | (simp; omega)), rfl⟩

theorem divI_any {hi lo y : Nat} (w : World) (hy : hi < y) (hy2 : y < 18446744073709551616) (hl : lo < 18446744073709551616) {Q : Int} {R : Nat} (hQ : Hid ((((hi * 18446744073709551616 + lo) / y : Nat) : Int) = Q)) (hR : Hid ((hi * 18446744073709551616 + lo) % y = R)) :
    Calls Try.prog 154 #[.int .u64 hi, .int .u64 lo, .int .u64 y] w fun e w' => e = .returned (.tuple #[.int .u64 Q, .int .u64 R]) ∧ w.grownBy w' none := by
  refine (div64_any hi lo y w hy hy2 hl).mono ?_
  rintro e w' ⟨h1, h2⟩
  exact ⟨by rw [h1, hQ.out, hR.out], h2⟩

theorem size_any (a : Int) (ha0 : -9223372036854775808 ≤ a) (ha1 : a ≤ 9223372036854775807) (w : World) :
    Calls Try.prog 153 #[.int .i64 a] w fun e w' => e = .returned (.int .u64 (a.natAbs : Nat)) ∧ w = w' := by
  obtain ⟨M, hM⟩ : ∃ M, M = a.natAbs := ⟨_, rfl⟩
  rw [← hM]
  by_cases hneg : a < 0
  · obtain ⟨e1, e2⟩ := neg_wrap a M hM hneg ha0
    obtain ⟨A1, hA1⟩ : ∃ A1, 18446744073709551616 - M = A1 := ⟨_, rfl⟩
    rw [hA1] at e1 e2
    clear hA1 hM
    go_enter Try.func153, Try.ntmps153
    go_wp2
    go_ret
    exact ⟨rfl, rfl⟩
  · obtain rfl : a = (M : Int) := by omega
    clear hM
    go_enter Try.func153, Try.ntmps153
    go_wp2
    go_ret
    exact ⟨rfl, rfl⟩

set_option maxHeartbeats 800000 in
theorem more_any (q : Int) (r d : Nat) (minus : Bool) (how : Int) (hq0 : 0 ≤ q) (h1 : 1 ≤ how) (h5 : how ≤ 5) (hr : (r : Int) < (d : Int)) (hd : (d : Int) ≤ 9223372036854775807) (w : World) {b : Bool} (hb : Hid (moreB q r d minus how = b)) :
    Calls Try.prog 155 #[.int .u64 q, .int .u64 r, .int .u64 d, .bool minus, .int .i64 how] w fun e w' => e = .returned (.bool b) ∧ w = w' := by
  have hb' := hb.out
  unfold moreB at hb'
  by_cases h0 : r = 0
  · subst h0
    rw [if_pos (by rfl)] at hb'
    subst hb'
    clear hb
    go_enter Try.func155, Try.ntmps155
    go_wp2
    go_ret
    exact ⟨rfl, rfl⟩
  · rw [if_neg (by omega)] at hb'
    have h0' : ((r : Int) == 0) = false := by simp; omega
    rcases (show how = 1 ∨ how = 2 ∨ how = 3 ∨ how = 4 ∨ how = 5 by omega) with rfl | rfl | rfl | rfl | rfl
    · have HB := Lib.hid hb'; clear hb' hb h0
      go_enter Try.func155, Try.ntmps155
      go_wp2
      go_ret
      exact ⟨ret_bool (by simpa using HB.out), rfl⟩
    · have HB := Lib.hid hb'; clear hb' hb h0
      go_enter Try.func155, Try.ntmps155
      go_wp2
      go_ret
      exact ⟨ret_bool (by simpa using HB.out), rfl⟩
    · have HB := Lib.hid hb'; clear hb' hb h0
      go_enter Try.func155, Try.ntmps155
      go_wp2
      go_ret
      exact ⟨ret_bool (by simpa using HB.out), rfl⟩
    all_goals
      by_cases hm : (r : Int) = (d : Int) - (r : Int)
      · have hm1 : ((r : Int) != (d : Int) - (r : Int)) = false := by simpa using hm
        rw [if_pos hm] at hb'
        have HB := Lib.hid hb'; clear hb' hb h0 hm
        go_enter Try.func155, Try.ntmps155
        go_wp2
        go_ret
        exact ⟨ret_bool (by rw [← HB.out]; first | (simp; done) | (simp; rw [Bool.eq_iff_iff]; simp)), rfl⟩
      · have hm1 : ((r : Int) != (d : Int) - (r : Int)) = true := by simpa using hm
        rw [if_neg hm] at hb'
        have HB := Lib.hid hb'; clear hb' hb h0 hm
        go_enter Try.func155, Try.ntmps155
        go_wp2
        go_ret
        exact ⟨ret_bool (by simpa using HB.out), rfl⟩

set_option maxHeartbeats 1600000 in
theorem refScale_any (a num den how : Int) (ha0 : -9223372036854775808 ≤ a) (ha1 : a ≤ 9223372036854775807) (hn0 : -9223372036854775808 ≤ num) (hn1 : num ≤ 9223372036854775807) (hd0 : -9223372036854775808 ≤ den) (hd1 : den ≤ 9223372036854775807) (w : World) :
    Calls Try.prog 113 #[.int .i64 a, .int .i64 num, .int .i64 den, .int .i64 how] w fun e w' => e = .returned (.tuple #[.int .i64 (scaleV a num den how).1, .int .i64 (scaleV a num den how).2]) ∧ w.grownBy w' none := by
  by_cases hk : how < 1 ∨ 5 < how
  · have hv : scaleV a num den how = (0, 7) := by unfold scaleV; rw [if_pos hk]
    have HV := Lib.hid hv; clear hv
    have HK := Lib.hid hk; clear hk
    go_enter Try.func113, Try.ntmps113
    go_wp2_with (go_at_call 151; refine (outside_yes _ _ _ HK.out _).mono ?_; rintro e w1 ⟨rfl, rfl⟩)
    go_ret2
    exact ⟨ret_ii (by rw [HV.out]) (by rw [HV.out]), grown_refl _ _⟩
  have hk1 : 1 ≤ how := by omega
  have hk5 : how ≤ 5 := by omega
  clear hk
  by_cases hdn : den < 1
  · have hv : scaleV a num den how = (0, 1) := by unfold scaleV; rw [if_neg (by omega), if_pos (.inl (by omega))]
    have HV := Lib.hid hv; clear hv
    go_enter Try.func113, Try.ntmps113
    go_wp2_with (go_at_call 151; refine (outside_no _ _ _ hk1 hk5 _).mono ?_; rintro e w1 ⟨rfl, rfl⟩)
    go_ret2
    exact ⟨ret_ii (by rw [HV.out]) (by rw [HV.out]), grown_refl _ _⟩
  by_cases hnn : num < 0
  · have hv : scaleV a num den how = (0, 1) := by unfold scaleV; rw [if_neg (by omega), if_pos (.inr (by omega))]
    have HV := Lib.hid hv; clear hv
    go_enter Try.func113, Try.ntmps113
    go_wp2_with (go_at_call 151; refine (outside_no _ _ _ hk1 hk5 _).mono ?_; rintro e w1 ⟨rfl, rfl⟩)
    go_ret2
    exact ⟨ret_ii (by rw [HV.out]) (by rw [HV.out]), grown_refl _ _⟩
  obtain ⟨n, rfl⟩ : ∃ n : Nat, (n : Int) = num := ⟨num.toNat, by omega⟩
  obtain ⟨d, rfl⟩ : ∃ n : Nat, (n : Int) = den := ⟨den.toNat, by omega⟩
  have hsc := scale_ref a n d how hk1 hk5 (by omega) (by omega)
  have hsz := size_any a ha0 ha1
  have hM64 : ((a.natAbs : Nat) : Int) ≤ 9223372036854775808 := by omega
  unfold quoV at hsc
  generalize a.natAbs = M at hsc hsz hM64
  obtain ⟨H, hH⟩ : ∃ H, M * n / 18446744073709551616 = H := ⟨_, rfl⟩
  obtain ⟨L, hL⟩ : ∃ H, M * n % 18446744073709551616 = H := ⟨_, rfl⟩
  have hL64 : L < 18446744073709551616 := by rw [← hL]; exact Nat.mod_lt _ (by decide)
  have hback := back M n
  rw [hH, hL] at hback
  obtain ⟨Q, hQ⟩ : ∃ Q : Int, (((H * 18446744073709551616 + L) / d : Nat) : Int) = Q := ⟨_, rfl⟩
  obtain ⟨R, hR⟩ : ∃ Q, (H * 18446744073709551616 + L) % d = Q := ⟨_, rfl⟩
  have hRd : (R : Int) < (d : Int) := by have : R < d := by rw [← hR]; exact Nat.mod_lt _ (by omega)
                                         omega
  have eN : (M : Int) * (n : Int) = ((H * 18446744073709551616 + L : Nat) : Int) := by rw [hback]; push_cast; rfl
  have eQ : ((M : Int) * (n : Int)) / (d : Int) = Q := by rw [eN, ← Int.natCast_ediv, hQ]
  have eR : ((M : Int) * (n : Int)) % (d : Int) = (R : Int) := by rw [eN, ← Int.natCast_emod, hR]
  rw [eQ, eR] at hsc
  have HSZ := Lib.hid hsz; clear hsz
  have HH := Lib.hid hH; have HL := Lib.hid hL; have HB := Lib.hid hback; have HQ := Lib.hid hQ; have HR := Lib.hid hR
  clear hH hL hback hQ hR eN eQ eR
  by_cases hhd : (d : Int) ≤ (H : Int)
  · have hv : scaleV a n d how = (0, 9) := by
      rw [hsc, if_pos]
      have h1 : d * 18446744073709551616 ≤ H * 18446744073709551616 + L := by omega
      have h2 : 18446744073709551616 ≤ (H * 18446744073709551616 + L) / d := by rw [Nat.le_div_iff_mul_le (by omega), Nat.mul_comm]; exact h1
      have h3 := HQ.out
      unfold big
      split <;> omega
    have HV := Lib.hid hv; clear hv hsc
    go_enter Try.func113, Try.ntmps113
    go_wp2_with (first | (go_at_call 151; refine (outside_no _ _ _ hk1 hk5 _).mono ?_; rintro e w1 ⟨rfl, rfl⟩) | (go_at_call 153; refine (HSZ.out _).mono ?_; rintro e w1 ⟨rfl, rfl⟩) | (go_at_call 152; refine (mul_any M n (by omega) (by omega) _ HH HL).mono ?_; rintro e w1 ⟨rfl, rfl⟩))
    go_ret2
    exact ⟨ret_ii (by rw [HV.out]) (by rw [HV.out]), grown_refl _ _⟩
  · have hQ64 : Q ≤ 18446744073709551615 := by
      have : (H * 18446744073709551616 + L) / d < 18446744073709551616 := by rw [Nat.div_lt_iff_lt_mul (by omega)]; omega
      have h3 := HQ.out
      omega
    have HL64 := Lib.hid hL64; clear hL64
    have hQ0 : 0 ≤ Q := by rw [← HQ.out]; exact Int.natCast_nonneg _
    have e0 : ∀ x : Int, x + (if false = true then 1 else 0) = x := fun x => by simp
    have e1 : ∀ x : Int, x + (if true = true then 1 else 0) = x + 1 := fun x => by simp
    by_cases hneg : a < 0
    · rw [decide_eq_true hneg, if_pos hneg] at hsc
      rcases hm : moreB Q R d true how with _ | _
      · rw [hm, e0] at hsc
        have HM := Lib.hid hm; clear hm e0 e1
        by_cases hbg : (4611686018427387904 : Int) < Q
        · rw [if_pos (by unfold big; omega)] at hsc
          skip
          have HV := Lib.hid hsc; clear hsc
          go_enter Try.func113, Try.ntmps113
          go_wp2_with (first | (go_at_call 151; refine (outside_no _ _ _ hk1 hk5 _).mono ?_; rintro e w1 ⟨rfl, rfl⟩) | (go_at_call 153; refine (HSZ.out _).mono ?_; rintro e w1 ⟨rfl, rfl⟩) | (go_at_call 152; refine (mul_any M n (by omega) (by omega) _ HH HL).mono ?_; rintro e w1 ⟨rfl, rfl⟩) | (go_at_call 154; refine (divI_any _ (by omega) (by omega) HL64.out HQ HR).mono ?_; rintro e w2 ⟨rfl, hg⟩) | (go_at_call 155; refine (more_any Q R d _ how hQ0 hk1 hk5 hRd (by omega) _ HM).mono ?_; rintro e w3 ⟨rfl, rfl⟩))
          go_ret2
          exact ⟨ret_ii (by rw [HV.out]) (by rw [HV.out]), by assumption⟩
        · rw [if_neg (by unfold big; omega)] at hsc
          skip
          have HV := Lib.hid hsc; clear hsc
          go_enter Try.func113, Try.ntmps113
          go_wp2_with (first | (go_at_call 151; refine (outside_no _ _ _ hk1 hk5 _).mono ?_; rintro e w1 ⟨rfl, rfl⟩) | (go_at_call 153; refine (HSZ.out _).mono ?_; rintro e w1 ⟨rfl, rfl⟩) | (go_at_call 152; refine (mul_any M n (by omega) (by omega) _ HH HL).mono ?_; rintro e w1 ⟨rfl, rfl⟩) | (go_at_call 154; refine (divI_any _ (by omega) (by omega) HL64.out HQ HR).mono ?_; rintro e w2 ⟨rfl, hg⟩) | (go_at_call 155; refine (more_any Q R d _ how hQ0 hk1 hk5 hRd (by omega) _ HM).mono ?_; rintro e w3 ⟨rfl, rfl⟩))
          go_ret2
          exact ⟨ret_ii (by rw [HV.out]) (by rw [HV.out]), by assumption⟩
      · rw [hm, e1] at hsc
        have HM := Lib.hid hm; clear hm e0 e1
        by_cases hmx : Q = 18446744073709551615
        · rw [if_pos (by unfold big; omega)] at hsc
          have ew : IntKind.u64.wrap (Q + 1) = 0 := by rw [IntKind.wrap_u64]; omega
          clear hmx
          have HV := Lib.hid hsc; clear hsc
          go_enter Try.func113, Try.ntmps113
          go_wp2_with (first | (go_at_call 151; refine (outside_no _ _ _ hk1 hk5 _).mono ?_; rintro e w1 ⟨rfl, rfl⟩) | (go_at_call 153; refine (HSZ.out _).mono ?_; rintro e w1 ⟨rfl, rfl⟩) | (go_at_call 152; refine (mul_any M n (by omega) (by omega) _ HH HL).mono ?_; rintro e w1 ⟨rfl, rfl⟩) | (go_at_call 154; refine (divI_any _ (by omega) (by omega) HL64.out HQ HR).mono ?_; rintro e w2 ⟨rfl, hg⟩) | (go_at_call 155; refine (more_any Q R d _ how hQ0 hk1 hk5 hRd (by omega) _ HM).mono ?_; rintro e w3 ⟨rfl, rfl⟩))
          go_ret2
          exact ⟨ret_ii (by rw [HV.out]) (by rw [HV.out]), by assumption⟩
        · have hmx1 : Q ≤ 18446744073709551614 := by omega
          have hnz : (Q + 1 == 0) = false := by simp; omega
          clear hmx
          by_cases hbg : (4611686018427387904 : Int) < Q + 1
          · rw [if_pos (by unfold big; omega)] at hsc
            skip
            have HV := Lib.hid hsc; clear hsc
            go_enter Try.func113, Try.ntmps113
            go_wp2_with (first | (go_at_call 151; refine (outside_no _ _ _ hk1 hk5 _).mono ?_; rintro e w1 ⟨rfl, rfl⟩) | (go_at_call 153; refine (HSZ.out _).mono ?_; rintro e w1 ⟨rfl, rfl⟩) | (go_at_call 152; refine (mul_any M n (by omega) (by omega) _ HH HL).mono ?_; rintro e w1 ⟨rfl, rfl⟩) | (go_at_call 154; refine (divI_any _ (by omega) (by omega) HL64.out HQ HR).mono ?_; rintro e w2 ⟨rfl, hg⟩) | (go_at_call 155; refine (more_any Q R d _ how hQ0 hk1 hk5 hRd (by omega) _ HM).mono ?_; rintro e w3 ⟨rfl, rfl⟩))
            go_ret2
            exact ⟨ret_ii (by rw [HV.out]) (by rw [HV.out]), by assumption⟩
          · rw [if_neg (by unfold big; omega)] at hsc
            skip
            have HV := Lib.hid hsc; clear hsc
            go_enter Try.func113, Try.ntmps113
            go_wp2_with (first | (go_at_call 151; refine (outside_no _ _ _ hk1 hk5 _).mono ?_; rintro e w1 ⟨rfl, rfl⟩) | (go_at_call 153; refine (HSZ.out _).mono ?_; rintro e w1 ⟨rfl, rfl⟩) | (go_at_call 152; refine (mul_any M n (by omega) (by omega) _ HH HL).mono ?_; rintro e w1 ⟨rfl, rfl⟩) | (go_at_call 154; refine (divI_any _ (by omega) (by omega) HL64.out HQ HR).mono ?_; rintro e w2 ⟨rfl, hg⟩) | (go_at_call 155; refine (more_any Q R d _ how hQ0 hk1 hk5 hRd (by omega) _ HM).mono ?_; rintro e w3 ⟨rfl, rfl⟩))
            go_ret2
            exact ⟨ret_ii (by rw [HV.out]) (by rw [HV.out]), by assumption⟩
    · rw [decide_eq_false hneg, if_neg hneg] at hsc
      have hnb : decide (a < 0) = false := decide_eq_false hneg
      rcases hm : moreB Q R d false how with _ | _
      · rw [hm, e0] at hsc
        have HM := Lib.hid hm; clear hm e0 e1
        by_cases hbg : (4611686018427387904 : Int) < Q
        · rw [if_pos (by unfold big; omega)] at hsc
          skip
          have HV := Lib.hid hsc; clear hsc
          go_enter Try.func113, Try.ntmps113
          go_wp2_with (first | (go_at_call 151; refine (outside_no _ _ _ hk1 hk5 _).mono ?_; rintro e w1 ⟨rfl, rfl⟩) | (go_at_call 153; refine (HSZ.out _).mono ?_; rintro e w1 ⟨rfl, rfl⟩) | (go_at_call 152; refine (mul_any M n (by omega) (by omega) _ HH HL).mono ?_; rintro e w1 ⟨rfl, rfl⟩) | (go_at_call 154; refine (divI_any _ (by omega) (by omega) HL64.out HQ HR).mono ?_; rintro e w2 ⟨rfl, hg⟩) | (go_at_call 155; refine (more_any Q R d _ how hQ0 hk1 hk5 hRd (by omega) _ HM).mono ?_; rintro e w3 ⟨rfl, rfl⟩))
          go_ret2
          exact ⟨ret_ii (by rw [HV.out]) (by rw [HV.out]), by assumption⟩
        · rw [if_neg (by unfold big; omega)] at hsc
          skip
          have HV := Lib.hid hsc; clear hsc
          go_enter Try.func113, Try.ntmps113
          go_wp2_with (first | (go_at_call 151; refine (outside_no _ _ _ hk1 hk5 _).mono ?_; rintro e w1 ⟨rfl, rfl⟩) | (go_at_call 153; refine (HSZ.out _).mono ?_; rintro e w1 ⟨rfl, rfl⟩) | (go_at_call 152; refine (mul_any M n (by omega) (by omega) _ HH HL).mono ?_; rintro e w1 ⟨rfl, rfl⟩) | (go_at_call 154; refine (divI_any _ (by omega) (by omega) HL64.out HQ HR).mono ?_; rintro e w2 ⟨rfl, hg⟩) | (go_at_call 155; refine (more_any Q R d _ how hQ0 hk1 hk5 hRd (by omega) _ HM).mono ?_; rintro e w3 ⟨rfl, rfl⟩))
          go_ret2
          exact ⟨ret_ii (by rw [HV.out]) (by rw [HV.out]), by assumption⟩
      · rw [hm, e1] at hsc
        have HM := Lib.hid hm; clear hm e0 e1
        by_cases hmx : Q = 18446744073709551615
        · rw [if_pos (by unfold big; omega)] at hsc
          have ew : IntKind.u64.wrap (Q + 1) = 0 := by rw [IntKind.wrap_u64]; omega
          clear hmx
          have HV := Lib.hid hsc; clear hsc
          go_enter Try.func113, Try.ntmps113
          go_wp2_with (first | (go_at_call 151; refine (outside_no _ _ _ hk1 hk5 _).mono ?_; rintro e w1 ⟨rfl, rfl⟩) | (go_at_call 153; refine (HSZ.out _).mono ?_; rintro e w1 ⟨rfl, rfl⟩) | (go_at_call 152; refine (mul_any M n (by omega) (by omega) _ HH HL).mono ?_; rintro e w1 ⟨rfl, rfl⟩) | (go_at_call 154; refine (divI_any _ (by omega) (by omega) HL64.out HQ HR).mono ?_; rintro e w2 ⟨rfl, hg⟩) | (go_at_call 155; refine (more_any Q R d _ how hQ0 hk1 hk5 hRd (by omega) _ HM).mono ?_; rintro e w3 ⟨rfl, rfl⟩))
          go_ret2
          exact ⟨ret_ii (by rw [HV.out]) (by rw [HV.out]), by assumption⟩
        · have hmx1 : Q ≤ 18446744073709551614 := by omega
          have hnz : (Q + 1 == 0) = false := by simp; omega
          clear hmx
          by_cases hbg : (4611686018427387904 : Int) < Q + 1
          · rw [if_pos (by unfold big; omega)] at hsc
            skip
            have HV := Lib.hid hsc; clear hsc
            go_enter Try.func113, Try.ntmps113
            go_wp2_with (first | (go_at_call 151; refine (outside_no _ _ _ hk1 hk5 _).mono ?_; rintro e w1 ⟨rfl, rfl⟩) | (go_at_call 153; refine (HSZ.out _).mono ?_; rintro e w1 ⟨rfl, rfl⟩) | (go_at_call 152; refine (mul_any M n (by omega) (by omega) _ HH HL).mono ?_; rintro e w1 ⟨rfl, rfl⟩) | (go_at_call 154; refine (divI_any _ (by omega) (by omega) HL64.out HQ HR).mono ?_; rintro e w2 ⟨rfl, hg⟩) | (go_at_call 155; refine (more_any Q R d _ how hQ0 hk1 hk5 hRd (by omega) _ HM).mono ?_; rintro e w3 ⟨rfl, rfl⟩))
            go_ret2
            exact ⟨ret_ii (by rw [HV.out]) (by rw [HV.out]), by assumption⟩
          · rw [if_neg (by unfold big; omega)] at hsc
            skip
            have HV := Lib.hid hsc; clear hsc
            go_enter Try.func113, Try.ntmps113
            go_wp2_with (first | (go_at_call 151; refine (outside_no _ _ _ hk1 hk5 _).mono ?_; rintro e w1 ⟨rfl, rfl⟩) | (go_at_call 153; refine (HSZ.out _).mono ?_; rintro e w1 ⟨rfl, rfl⟩) | (go_at_call 152; refine (mul_any M n (by omega) (by omega) _ HH HL).mono ?_; rintro e w1 ⟨rfl, rfl⟩) | (go_at_call 154; refine (divI_any _ (by omega) (by omega) HL64.out HQ HR).mono ?_; rintro e w2 ⟨rfl, hg⟩) | (go_at_call 155; refine (more_any Q R d _ how hQ0 hk1 hk5 hRd (by omega) _ HM).mono ?_; rintro e w3 ⟨rfl, rfl⟩))
            go_ret2
            exact ⟨ret_ii (by rw [HV.out]) (by rw [HV.out]), by assumption⟩
end Go.Proofs.Ytgkhhfojioepgaa
namespace Go.Proofs.Ytgkhhfojioepgaa
open Go.RowKit
set_option linter.unusedSimpArgs false
set_option linter.unusedVariables false

theorem roundings_any (w : World) :
    Calls Try.prog 150 #[] w fun e w' => e = .returned (.agg #[.nilFunc, .func (.func 177) #[] #[], .func (.func 178) #[] #[], .func (.func 179) #[] #[], .func (.func 180) #[] #[], .func (.func 181) #[] #[]]) ∧ w.grownBy w' none := by
  go_enter Try.func150, Try.ntmps150
  go_wp2
  exact bodyPost_ret (v := .agg #[.nilFunc, .func (.func 177) #[] #[], .func (.func 178) #[] #[], .func (.func 179) #[] #[], .func (.func 180) #[] #[], .func (.func 181) #[] #[]]) (by simp [results, Try.results150, go_sem]) rfl ⟨rfl, World.grownBy_alloc _ _ _⟩

theorem round1_any (q : Int) (r d : Nat) (w : World) :
    Calls Try.prog 177 #[.int .i64 q, .int .u64 r, .int .u64 d] w fun e w' => e = .returned (.bool (upB 1 q r d)) ∧ w = w' := by
  go_enter Try.func177, Try.ntmps177
  go_wp2
  go_ret
  exact ⟨rfl, rfl⟩
theorem round2_any (q : Int) (r d : Nat) (w : World) :
    Calls Try.prog 178 #[.int .i64 q, .int .u64 r, .int .u64 d] w fun e w' => e = .returned (.bool (upB 2 q r d)) ∧ w = w' := by
  go_enter Try.func178, Try.ntmps178
  go_wp2
  go_ret
  exact ⟨ret_bool (by simp [upB]), rfl⟩
theorem round3_any (q : Int) (r d : Nat) (w : World) :
    Calls Try.prog 179 #[.int .i64 q, .int .u64 r, .int .u64 d] w fun e w' => e = .returned (.bool (upB 3 q r d)) ∧ w = w' := by
  go_enter Try.func179, Try.ntmps179
  go_wp2
  all_goals go_ret
  all_goals exact ⟨ret_bool (by simp [upB, *]), rfl⟩
theorem round4_any (q : Int) (r d : Nat) (hr : (r : Int) ≤ (d : Int)) (hd : (d : Int) ≤ 9223372036854775807) (w : World) :
    Calls Try.prog 180 #[.int .i64 q, .int .u64 r, .int .u64 d] w fun e w' => e = .returned (.bool (upB 4 q r d)) ∧ w = w' := by
  go_enter Try.func180, Try.ntmps180
  go_wp2
  go_ret
  exact ⟨ret_bool (by simp [upB]), rfl⟩
theorem tmod2 (q : Int) : (q.tmod 2 != 0) = decide (q % 2 = 1) := by
  rw [Bool.eq_iff_iff, bne_iff_ne, Ne, ← Int.dvd_iff_tmod_eq_zero, decide_eq_true_iff]; omega
set_option maxHeartbeats 400000 in
theorem round5_any (q : Int) (r d : Nat) (hr : (r : Int) ≤ (d : Int)) (hd : (d : Int) ≤ 9223372036854775807) (w : World) :
    Calls Try.prog 181 #[.int .i64 q, .int .u64 r, .int .u64 d] w fun e w' => e = .returned (.bool (upB 5 q r d)) ∧ w = w' := by
  by_cases h1 : (d : Int) - (r : Int) < (r : Int)
  · go_enter Try.func181, Try.ntmps181
    go_wp2
    go_ret
    exact ⟨ret_bool (by simp [upB, h1]), rfl⟩
  · by_cases h2 : (r : Int) = (d : Int) - (r : Int)
    · have h3 : ((r : Int) == (d : Int) - (r : Int)) = true := by simpa using h2
      have H2 := Lib.hid h2; clear h2
      go_enter Try.func181, Try.ntmps181
      go_wp2
      go_ret
      exact ⟨ret_bool (by rw [tmod2]; simp [upB, ← H2.out]), rfl⟩
    · have h3 : ((r : Int) == (d : Int) - (r : Int)) = false := by simpa using h2
      have H2 := Lib.hid h2; clear h2
      go_enter Try.func181, Try.ntmps181
      go_wp2
      go_ret
      exact ⟨ret_bool (by have := H2.out; simp [upB, h1, this]), rfl⟩

theorem round1_is (q : Int) (r d : Nat) (w : World) {b : Bool} (h : Hid (upB 1 q r d = b)) :
    Calls Try.prog 177 #[.int .i64 q, .int .u64 r, .int .u64 d] w fun e w' => e = .returned (.bool b) ∧ w = w' := by
  have := round1_any q r d w
  rw [h.out] at this; exact this
theorem round2_is (q : Int) (r d : Nat) (w : World) {b : Bool} (h : Hid (upB 2 q r d = b)) :
    Calls Try.prog 178 #[.int .i64 q, .int .u64 r, .int .u64 d] w fun e w' => e = .returned (.bool b) ∧ w = w' := by
  have := round2_any q r d w
  rw [h.out] at this; exact this
theorem round3_is (q : Int) (r d : Nat) (w : World) {b : Bool} (h : Hid (upB 3 q r d = b)) :
    Calls Try.prog 179 #[.int .i64 q, .int .u64 r, .int .u64 d] w fun e w' => e = .returned (.bool b) ∧ w = w' := by
  have := round3_any q r d w
  rw [h.out] at this; exact this
theorem round4_is (q : Int) (r d : Nat) (hr : (r : Int) ≤ (d : Int)) (hd : (d : Int) ≤ 9223372036854775807) (w : World) {b : Bool} (h : Hid (upB 4 q r d = b)) :
    Calls Try.prog 180 #[.int .i64 q, .int .u64 r, .int .u64 d] w fun e w' => e = .returned (.bool b) ∧ w = w' := by
  have := round4_any q r d hr hd w
  rw [h.out] at this; exact this
theorem round5_is (q : Int) (r d : Nat) (hr : (r : Int) ≤ (d : Int)) (hd : (d : Int) ≤ 9223372036854775807) (w : World) {b : Bool} (h : Hid (upB 5 q r d = b)) :
    Calls Try.prog 181 #[.int .i64 q, .int .u64 r, .int .u64 d] w fun e w' => e = .returned (.bool b) ∧ w = w' := by
  have := round5_any q r d hr hd w
  rw [h.out] at this; exact this
theorem pick1 (w : World) : (Instr.index 164 (.agg #[.nilFunc, .func (.func 177) #[] #[], .func (.func 178) #[] #[], .func (.func 179) #[] #[], .func (.func 180) #[] #[], .func (.func 181) #[] #[]]) (.int .i64 1)).run Try.prog w = .ok (.func (.func 177) #[] #[]) w := by kernel_rfl
theorem pick2 (w : World) : (Instr.index 164 (.agg #[.nilFunc, .func (.func 177) #[] #[], .func (.func 178) #[] #[], .func (.func 179) #[] #[], .func (.func 180) #[] #[], .func (.func 181) #[] #[]]) (.int .i64 2)).run Try.prog w = .ok (.func (.func 178) #[] #[]) w := by kernel_rfl
theorem pick3 (w : World) : (Instr.index 164 (.agg #[.nilFunc, .func (.func 177) #[] #[], .func (.func 178) #[] #[], .func (.func 179) #[] #[], .func (.func 180) #[] #[], .func (.func 181) #[] #[]]) (.int .i64 3)).run Try.prog w = .ok (.func (.func 179) #[] #[]) w := by kernel_rfl
theorem pick4 (w : World) : (Instr.index 164 (.agg #[.nilFunc, .func (.func 177) #[] #[], .func (.func 178) #[] #[], .func (.func 179) #[] #[], .func (.func 180) #[] #[], .func (.func 181) #[] #[]]) (.int .i64 4)).run Try.prog w = .ok (.func (.func 180) #[] #[]) w := by kernel_rfl
theorem pick5 (w : World) : (Instr.index 164 (.agg #[.nilFunc, .func (.func 177) #[] #[], .func (.func 178) #[] #[], .func (.func 179) #[] #[], .func (.func 180) #[] #[], .func (.func 181) #[] #[]]) (.int .i64 5)).run Try.prog w = .ok (.func (.func 181) #[] #[]) w := by kernel_rfl

theorem big_is (a : Int) (num den : Nat) : TooBig a.natAbs num den ↔ big < ((a.natAbs : Int) * (num : Int)) / (den : Int) := by
  unfold TooBig big
  rw [← Int.natCast_mul, ← Int.natCast_ediv]; omega

theorem rnd_bd (a : Int) (num den : Nat) (hd : 1 ≤ den) (hb : ¬ TooBig a.natAbs num den) : -4611686018427387905 ≤ a * num / den ∧ a * num / den ≤ 4611686018427387904 := by
  rw [big_is] at hb
  unfold big at hb
  rcases (show a < 0 ∨ 0 ≤ a by omega) with ha | ha
  · have en : (a.natAbs : Int) = -a := by omega
    have e : a * num = -((a.natAbs : Int) * num) := by rw [en, Int.neg_mul, Int.neg_neg]
    have hN : 0 ≤ (a.natAbs : Int) * num := Int.mul_nonneg (by omega) (by omega)
    rw [e]
    generalize (a.natAbs : Int) * num = N at *
    have hq : 0 ≤ N / den := Int.ediv_nonneg hN (by omega)
    by_cases hz : N % den = 0
    · rw [(neg_div_of N den (by omega) hz).1]; omega
    · rw [(neg_div_of' N den (by omega) hz).1]; omega
  · have e : (a.natAbs : Int) = a := by omega
    have hN : 0 ≤ a * num := Int.mul_nonneg (by omega) (by omega)
    rw [e] at hb
    have hq : 0 ≤ a * num / den := Int.ediv_nonneg hN (by omega)
    omega

set_option maxHeartbeats 1600000 in
theorem scale_any (a num den how : Int) (ha0 : -9223372036854775808 ≤ a) (ha1 : a ≤ 9223372036854775807) (hn0 : -9223372036854775808 ≤ num) (hn1 : num ≤ 9223372036854775807) (hd0 : -9223372036854775808 ≤ den) (hd1 : den ≤ 9223372036854775807) (w : World) :
    Calls Try.prog 112 #[.int .i64 a, .int .i64 num, .int .i64 den, .int .i64 how] w fun e w' => e = .returned (.tuple #[.int .i64 (scaleV a num den how).1, .int .i64 (scaleV a num den how).2]) ∧ w.grownBy w' none := by
  by_cases hk : how < 1
  · have hv : scaleV a num den how = (0, 7) := by unfold scaleV; rw [if_pos (.inl hk)]
    have HV := Lib.hid hv; clear hv
    go_enter Try.func112, Try.ntmps112
    go_wp2
    go_ret2
    exact ⟨ret_ii (by rw [HV.out]) (by rw [HV.out]), grown_refl _ _⟩
  by_cases hk5 : 5 < how
  · have hv : scaleV a num den how = (0, 7) := by unfold scaleV; rw [if_pos (.inr hk5)]
    have HV := Lib.hid hv; clear hv
    go_enter Try.func112, Try.ntmps112
    go_wp2
    go_ret2
    exact ⟨ret_ii (by rw [HV.out]) (by rw [HV.out]), grown_refl _ _⟩
  by_cases hdn : den ≤ 0
  · have hv : scaleV a num den how = (0, 1) := by unfold scaleV; rw [if_neg (by omega), if_pos (.inl (by omega))]
    have HV := Lib.hid hv; clear hv
    go_enter Try.func112, Try.ntmps112
    go_wp2
    go_ret2
    exact ⟨ret_ii (by rw [HV.out]) (by rw [HV.out]), grown_refl _ _⟩
  by_cases hnn : num < 0
  · have hv : scaleV a num den how = (0, 1) := by unfold scaleV; rw [if_neg (by omega), if_pos (.inr (by omega))]
    have HV := Lib.hid hv; clear hv
    go_enter Try.func112, Try.ntmps112
    go_wp2
    go_ret2
    exact ⟨ret_ii (by rw [HV.out]) (by rw [HV.out]), grown_refl _ _⟩
  obtain ⟨n, rfl⟩ : ∃ n : Nat, (n : Int) = num := ⟨num.toNat, by omega⟩
  obtain ⟨d, rfl⟩ : ∃ n : Nat, (n : Int) = den := ⟨den.toNat, by omega⟩
  by_cases hbig : TooBig a.natAbs n d
  · have hv : scaleV a n d how = (0, 9) := scale_no a n d how (by omega) (by omega) (by omega) (by omega) ((big_is a n d).1 hbig)
    have HV := Lib.hid hv; clear hv
    have HB := Lib.hid hbig; clear hbig
    go_enter Try.func112, Try.ntmps112
    go_wp2_with (go_at_call 149; refine (quot_no a n d ha0 ha1 (by omega) (by omega) (by omega) HB.out _).mono ?_; rintro e w1 ⟨rfl, hg⟩)
    go_ret2
    exact ⟨ret_ii (by rw [HV.out]) (by rw [HV.out]), by assumption⟩
  have hqb := rnd_bd a n d (by omega) hbig
  obtain ⟨q, hq⟩ : ∃ q, a * n / d = q := ⟨_, rfl⟩
  obtain ⟨r, hr⟩ : ∃ r : Nat, a * n % d = (r : Int) := ⟨(a * n % d).toNat, by have := Int.emod_nonneg (a * n) (show (d : Int) ≠ 0 by omega); omega⟩
  have hrd : (r : Int) < (d : Int) := by rw [← hr]; exact Int.emod_lt_of_pos _ (by omega)
  have hquot := quot_yes a n d ha0 ha1 (by omega) (by omega) (by omega) hbig
  rw [hq] at hqb
  rw [hq, hr] at hquot
  have HQ := Lib.hid hquot; clear hquot hbig
  have i1 := pick1
  have i2 := pick2
  have i3 := pick3
  have i4 := pick4
  have i5 := pick5
  have h15 : how = 1 ∨ how = 2 ∨ how = 3 ∨ how = 4 ∨ how = 5 := by omega
  rcases hu : upB how q r d with _ | _
  · have hv : scaleV a n d how = if q < -big ∨ big < q then (0, 9) else (q, 0) := by
      unfold scaleV rndV; rw [if_neg (by omega), if_neg (by omega), hq, hr, hu]; simp
    have HU := Lib.hid hu; clear hu hq hr
    by_cases hc : q < -4611686018427387904
    · rw [if_pos (by unfold big; omega)] at hv
      have HV := Lib.hid hv; clear hv
      rcases h15 with rfl | rfl | rfl | rfl | rfl
      all_goals
        go_enter Try.func112, Try.ntmps112
        go_wp2_with (first | (go_at_call 149; refine (HQ.out _).mono ?_; rintro e w1 ⟨rfl, hg1⟩) | (go_at_call 150; refine (roundings_any _).mono ?_; rintro e w2 ⟨rfl, hg2⟩) | (go_at_call 177; refine (round1_is q r d _ HU).mono ?_; rintro e w3 ⟨rfl, rfl⟩) | (go_at_call 178; refine (round2_is q r d _ HU).mono ?_; rintro e w3 ⟨rfl, rfl⟩) | (go_at_call 179; refine (round3_is q r d _ HU).mono ?_; rintro e w3 ⟨rfl, rfl⟩) | (go_at_call 180; refine (round4_is q r d (by omega) (by omega) _ HU).mono ?_; rintro e w3 ⟨rfl, rfl⟩) | (go_at_call 181; refine (round5_is q r d (by omega) (by omega) _ HU).mono ?_; rintro e w3 ⟨rfl, rfl⟩))
        all_goals
          go_ret2
          exact ⟨ret_ii (by rw [HV.out]) (by rw [HV.out]), grown_trans (by assumption) (by assumption)⟩
    · rw [if_neg (by unfold big; omega)] at hv
      have HV := Lib.hid hv; clear hv
      rcases h15 with rfl | rfl | rfl | rfl | rfl
      all_goals
        go_enter Try.func112, Try.ntmps112
        go_wp2_with (first | (go_at_call 149; refine (HQ.out _).mono ?_; rintro e w1 ⟨rfl, hg1⟩) | (go_at_call 150; refine (roundings_any _).mono ?_; rintro e w2 ⟨rfl, hg2⟩) | (go_at_call 177; refine (round1_is q r d _ HU).mono ?_; rintro e w3 ⟨rfl, rfl⟩) | (go_at_call 178; refine (round2_is q r d _ HU).mono ?_; rintro e w3 ⟨rfl, rfl⟩) | (go_at_call 179; refine (round3_is q r d _ HU).mono ?_; rintro e w3 ⟨rfl, rfl⟩) | (go_at_call 180; refine (round4_is q r d (by omega) (by omega) _ HU).mono ?_; rintro e w3 ⟨rfl, rfl⟩) | (go_at_call 181; refine (round5_is q r d (by omega) (by omega) _ HU).mono ?_; rintro e w3 ⟨rfl, rfl⟩))
        all_goals
          go_ret2
          exact ⟨ret_ii (by rw [HV.out]) (by rw [HV.out]), grown_trans (by assumption) (by assumption)⟩
  · have hv : scaleV a n d how = if q + 1 < -big ∨ big < q + 1 then (0, 9) else (q + 1, 0) := by
      unfold scaleV rndV; rw [if_neg (by omega), if_neg (by omega), hq, hr, hu]; simp
    have HU := Lib.hid hu; clear hu hq hr
    by_cases hc : 4611686018427387904 < q + 1
    · rw [if_pos (by unfold big; omega)] at hv
      have HV := Lib.hid hv; clear hv
      rcases h15 with rfl | rfl | rfl | rfl | rfl
      all_goals
        go_enter Try.func112, Try.ntmps112
        go_wp2_with (first | (go_at_call 149; refine (HQ.out _).mono ?_; rintro e w1 ⟨rfl, hg1⟩) | (go_at_call 150; refine (roundings_any _).mono ?_; rintro e w2 ⟨rfl, hg2⟩) | (go_at_call 177; refine (round1_is q r d _ HU).mono ?_; rintro e w3 ⟨rfl, rfl⟩) | (go_at_call 178; refine (round2_is q r d _ HU).mono ?_; rintro e w3 ⟨rfl, rfl⟩) | (go_at_call 179; refine (round3_is q r d _ HU).mono ?_; rintro e w3 ⟨rfl, rfl⟩) | (go_at_call 180; refine (round4_is q r d (by omega) (by omega) _ HU).mono ?_; rintro e w3 ⟨rfl, rfl⟩) | (go_at_call 181; refine (round5_is q r d (by omega) (by omega) _ HU).mono ?_; rintro e w3 ⟨rfl, rfl⟩))
        all_goals
          go_ret2
          exact ⟨ret_ii (by rw [HV.out]) (by rw [HV.out]), grown_trans (by assumption) (by assumption)⟩
    · rw [if_neg (by unfold big; omega)] at hv
      have HV := Lib.hid hv; clear hv
      rcases h15 with rfl | rfl | rfl | rfl | rfl
      all_goals
        go_enter Try.func112, Try.ntmps112
        go_wp2_with (first | (go_at_call 149; refine (HQ.out _).mono ?_; rintro e w1 ⟨rfl, hg1⟩) | (go_at_call 150; refine (roundings_any _).mono ?_; rintro e w2 ⟨rfl, hg2⟩) | (go_at_call 177; refine (round1_is q r d _ HU).mono ?_; rintro e w3 ⟨rfl, rfl⟩) | (go_at_call 178; refine (round2_is q r d _ HU).mono ?_; rintro e w3 ⟨rfl, rfl⟩) | (go_at_call 179; refine (round3_is q r d _ HU).mono ?_; rintro e w3 ⟨rfl, rfl⟩) | (go_at_call 180; refine (round4_is q r d (by omega) (by omega) _ HU).mono ?_; rintro e w3 ⟨rfl, rfl⟩) | (go_at_call 181; refine (round5_is q r d (by omega) (by omega) _ HU).mono ?_; rintro e w3 ⟨rfl, rfl⟩))
        all_goals
          go_ret2
          exact ⟨ret_ii (by rw [HV.out]) (by rw [HV.out]), grown_trans (by assumption) (by assumption)⟩
end Go.Proofs.Ytgkhhfojioepgaa
namespace Go.Proofs.Ytgkhhfojioepgaa
open Go.RowKit
set_option linter.unusedSimpArgs false
set_option linter.unusedVariables false

theorem smps_rise {st : Int} : ∀ (l : List Smp) (b : Option Int), smpsE st b l = 0 → (∀ i (h : i + 1 < l.length), (l[i]'(by omega)).t < l[i + 1].t) ∧ (∀ (h : 0 < l.length), ¬ early b l[0].t)
  | [], _, _ => ⟨fun i h => absurd h (by simp), fun h => absurd h (by simp)⟩
  | y :: r, b, h => by
    unfold smpsE at h
    split at h
    · omega
    · rename_i he
      split at h
      · obtain ⟨h1, h2⟩ := smps_rise r _ h
        refine ⟨fun i hi => ?_, fun _ => he⟩
        cases i with
        | zero =>
          have h3 : 0 < r.length := by simp only [List.length_cons] at hi; omega
          have := h2 h3
          unfold early at this
          simp only [List.getElem_cons_zero, List.getElem_cons_succ]
          omega
        | succ i =>
          have h3 : i + 1 < r.length := by simp only [List.length_cons] at hi; omega
          have := h1 i h3
          simpa using this
      · omega

/-- What is known of the samples of an activity that is right. -/
structure SOk (ss : List Smp) : Prop where
  len : (ss.length : Int) ≤ 20000
  t0 : 0 < ss.length → (smpD ss 0).t = 0
  inn : ∀ i, i < ss.length → 0 ≤ (smpD ss i).t ∧ (smpD ss i).t ≤ 1000000 ∧ inPlane (smpD ss i) ∧ (-100000 ≤ (smpD ss i).z ∧ (smpD ss i).z ≤ 100000) ∧ (-1 ≤ (smpD ss i).p ∧ (smpD ss i).p ≤ 300) ∧ (-1 ≤ (smpD ss i).q ∧ (smpD ss i).q ≤ 3000) ∧ (-1 ≤ (smpD ss i).s ∧ (smpD ss i).s ≤ 300)
  up : ∀ i, i + 1 < ss.length → (smpD ss i).t < (smpD ss (i + 1)).t
theorem sok_of {a : Act} (h : ActOk a) : SOk a.ss := by
  obtain ⟨hr, h0⟩ := smps_rise a.ss none h.smps
  have hin := smps_ok _ _ h.smps
  have t0 : 0 < a.ss.length → (smpD a.ss 0).t = 0 := fun hl => by
    have := h0 hl
    unfold early at this
    rw [smpD_at hl]; omega
  have up : ∀ i, i + 1 < a.ss.length → (smpD a.ss i).t < (smpD a.ss (i + 1)).t := fun i hi => by
    have := hr i hi
    rw [smpD_at hi, smpD_at (by omega : i < a.ss.length)]; exact this
  have pos : ∀ i, i < a.ss.length → 0 ≤ (smpD a.ss i).t := fun i => by
    induction i with
    | zero => intro hi; rw [t0 hi]; omega
    | succ i ih => intro hi; have := ih (by omega); have := up i hi; omega
  refine ⟨h.sl, t0, fun i hi => ?_, up⟩
  have := hin (smpD a.ss i) (by rw [smpD_at hi]; exact List.getElem_mem hi)
  unfold smpIn at this
  have hp := pos i hi
  unfold inPlane
  omega
end Go.Proofs.Ytgkhhfojioepgaa
namespace Go.Proofs.Ytgkhhfojioepgaa
open Go.RowKit
set_option linter.unusedSimpArgs false
set_option linter.unusedVariables false

/-- A number after a part of the whole. -/
noncomputable def btwV (p q part whole : Int) : Int := p + (scaleV (q - p) part whole 4).1
theorem scale_near {a num den : Int} (a0 : -200000000 ≤ a) (a1 : a ≤ 200000000) (h0 : 0 ≤ num) (h1 : num ≤ den) (hd : 1 ≤ den) (hd1 : den ≤ 1000000) : -200000001 ≤ (scaleV a num den 4).1 ∧ (scaleV a num den 4).1 ≤ 200000001 ∧ (scaleV a num den 4).2 = 0 := by
  have b0 : -200000000 * den ≤ a * num := by
    rcases Int.lt_or_le a 0 with h | h
    · have q1 : a * den ≤ a * num := Int.mul_le_mul_of_nonpos_left (by omega) h1
      have q2 : -200000000 * den ≤ a * den := Int.mul_le_mul_of_nonneg_right a0 (by omega)
      omega
    · have := Int.mul_nonneg h h0; omega
  have b1 : a * num ≤ 200000000 * den := by
    rcases Int.lt_or_le a 0 with h | h
    · have := Int.mul_nonneg (show 0 ≤ -a by omega) h0
      rw [Int.neg_mul] at this; omega
    · have q1 : a * num ≤ a * den := Int.mul_le_mul_of_nonneg_left h1 h
      have q2 : a * den ≤ 200000000 * den := Int.mul_le_mul_of_nonneg_right a1 (by omega)
      omega
  have d0 : -200000000 ≤ a * num / den := by rw [Int.le_ediv_iff_mul_le (by omega)]; exact b0
  have d1 : a * num / den ≤ 200000000 := by
    have := Int.ediv_le_ediv (c := den) (by omega) b1
    rwa [Int.mul_ediv_cancel _ (by omega)] at this
  have e : rndV 4 (a * num) den = a * num / den ∨ rndV 4 (a * num) den = a * num / den + 1 := by
    unfold rndV; split <;> simp
  have e2 : scaleV a num den 4 = (rndV 4 (a * num) den, 0) := by
    unfold scaleV big
    rw [if_neg (by omega), if_neg (by omega), if_neg (by omega)]
  rw [e2]
  exact ⟨by simp only; omega, by simp only; omega, rfl⟩

set_option maxHeartbeats 800000 in
theorem between_is (p q part whole : Int) (p0 : -100000000 ≤ p) (p1 : p ≤ 100000000) (q0 : -100000000 ≤ q) (q1 : q ≤ 100000000) (h0 : 0 ≤ part) (h1 : part ≤ whole) (hd : 1 ≤ whole) (hd1 : whole ≤ 1000000) (w : World) {n : Int} (h : Hid (btwV p q part whole = n)) :
    Calls Try.prog 162 #[.int .i64 p, .int .i64 q, .int .i64 part, .int .i64 whole] w fun e w' => e = .returned (.int .i64 n) ∧ w.grownBy w' none := by
  obtain ⟨b0, b1, b2⟩ := scale_near (a := q - p) (num := part) (den := whole) (by omega) (by omega) h0 h1 hd hd1
  have hv := h.out
  unfold btwV at hv
  obtain ⟨s, hs⟩ : ∃ s, (scaleV (q - p) part whole 4).1 = s := ⟨_, rfl⟩
  rw [hs] at b0 b1 hv
  have HS := Lib.hid hs; have HE := Lib.hid b2; have HV := Lib.hid hv
  have rs : IntKind.i64.wrap (q - p) = q - p := IntWalk.i64_in _ (by omega)
  have ra : IntKind.i64.wrap (p + s) = p + s := IntWalk.i64_in _ (by omega)
  clear h hv hs b2
  go_enter Try.func162, Try.ntmps162
  go_wp2_with fail
  refine (scale_any (q - p) part whole 4 (by omega) (by omega) (by omega) (by omega) (by omega) (by omega) _).mono ?_; rintro e w1 ⟨rfl, hg1⟩
  rw [HS.out, HE.out]
  have G := Lib.hid hg1
  clear hg1
  go_wp2_with fail
  go_ret
  exact ⟨ret_int HV.out, G.out⟩

set_option maxHeartbeats 800000 in
theorem rbetween_is (p q part whole : Int) (p0 : -100000000 ≤ p) (p1 : p ≤ 100000000) (q0 : -100000000 ≤ q) (q1 : q ≤ 100000000) (h0 : 0 ≤ part) (h1 : part ≤ whole) (hd : 1 ≤ whole) (hd1 : whole ≤ 1000000) (w : World) {n : Int} (h : Hid (btwV p q part whole = n)) :
    Calls Try.prog 97 #[.int .i64 p, .int .i64 q, .int .i64 part, .int .i64 whole] w fun e w' => e = .returned (.int .i64 n) ∧ w.grownBy w' none := by
  obtain ⟨b0, b1, b2⟩ := scale_near (a := q - p) (num := part) (den := whole) (by omega) (by omega) h0 h1 hd hd1
  have hv := h.out
  unfold btwV at hv
  obtain ⟨s, hs⟩ : ∃ s, (scaleV (q - p) part whole 4).1 = s := ⟨_, rfl⟩
  rw [hs] at b0 b1 hv
  have HS := Lib.hid hs; have HE := Lib.hid b2; have HV := Lib.hid hv
  have rs : IntKind.i64.wrap (q - p) = q - p := IntWalk.i64_in _ (by omega)
  have ra : IntKind.i64.wrap (p + s) = p + s := IntWalk.i64_in _ (by omega)
  clear h hv hs b2
  go_enter Try.func97, Try.ntmps97
  go_wp2_with fail
  refine (refScale_any (q - p) part whole 4 (by omega) (by omega) (by omega) (by omega) (by omega) (by omega) _).mono ?_; rintro e w1 ⟨rfl, hg1⟩
  rw [HS.out, HE.out]
  have G := Lib.hid hg1
  clear hg1
  go_wp2_with fail
  go_ret
  exact ⟨ret_int HV.out, G.out⟩

/-- What is asked of a sample: its place, its height, its time. -/
def SmpIn (x : Smp) : Prop := (0 ≤ x.t ∧ x.t ≤ 1000000) ∧ inPlane x ∧ -100000 ≤ x.z ∧ x.z ≤ 100000
/-- Where somebody was at a second between two samples. -/
noncomputable def onV (p q : Smp) (s : Int) : Smp := ⟨s, btwV p.x q.x (s - p.t) (q.t - p.t), btwV p.y q.y (s - p.t) (q.t - p.t), btwV p.z q.z (s - p.t) (q.t - p.t), p.p, p.q, p.s⟩
def smpVal (x : Smp) : Value := .agg #[.int .i64 x.t, .int .i64 x.x, .int .i64 x.y, .int .i64 x.z, .int .i64 x.p, .int .i64 x.q, .int .i64 x.s]
end Go.Proofs.Ytgkhhfojioepgaa
namespace Go.Proofs.Ytgkhhfojioepgaa
open Go.RowKit
set_option linter.unusedSimpArgs false
set_option linter.unusedVariables false

/-- A block's cell is set. -/
theorem block_set {W : World} {B k : Nat} {c : Array Value} {t : TypeId} (h : W.heap[B]? = some (.cells c t (0, 0))) (v : Value) : (W.setCell ⟨B, k, none⟩ v).heap[B]? = some (.cells (c.setIfInBounds k v) t (0, 0)) := by
  simp [World.setCell, Array.getElem?_modify, h]
theorem block_free {W : World} {B k : Nat} {c : Array Value} {t : TypeId} (h : W.heap[B]? = some (.cells c t (0, 0))) : W.frozen? ⟨B, k, none⟩ = false := by
  simp [World.frozen?, h]
theorem block_cell {W : World} {B : Nat} {c : Array Value} {t : TypeId} (h : W.heap[B]? = some (.cells c t (0, 0))) (k : Nat) (v : Value) (hv : c[k]? = some v) : W.cell? ⟨B, k, none⟩ = some v := (cell_of_row _ _ k _ _ (0, 0) h).trans hv
theorem grown_far {w w1 : World} {b : Nat} (h : w.grownBy w1 none) (hb : w.heap.size ≤ b) (k : Nat) (v : Value) : w.grownBy (w1.setCell ⟨b, k, none⟩ v) none :=
  ⟨h.os, h.tape, h.output, Nat.le_trans h.size (by simp [World.setCell]), fun i hi hne => by
    rw [Below.heap_setCell _ _ _ _ (by show i ≠ b; omega)]; exact h.block i hi hne⟩

/-- The memory of onStep: two samples, what it gives back, and its own. -/
structure OnM (w : World) (P Q Z X : Array Value) (W : World) : Prop where
  p : W.heap[w.heap.size]? = some (.cells P 28 (0, 0))
  q : W.heap[w.heap.size + 1]? = some (.cells Q 28 (0, 0))
  z : W.heap[w.heap.size + 2]? = some (.cells Z 28 (0, 0))
  x : W.heap[w.heap.size + 3]? = some (.cells X 28 (0, 0))
  g : w.grownBy W none
theorem OnM.grown {w W W' : World} {P Q Z X : Array Value} (h : OnM w P Q Z X W) (hg : W.grownBy W' none) : OnM w P Q Z X W' := by
  have k : ∀ {B : Nat} {o : Obj}, W.heap[B]? = some o → W'.heap[B]? = some o := fun {B o} h => (hg.block B (Array.getElem?_eq_some_iff.1 h).1 (by simp)).trans h
  exact ⟨k h.p, k h.q, k h.z, k h.x, grown_trans h.g hg⟩
theorem OnM.set {w W : World} {P Q Z X : Array Value} (h : OnM w P Q Z X W) (k : Nat) (v : Value) : OnM w P Q Z (X.setIfInBounds k v) (W.setCell ⟨w.heap.size + 3, k, none⟩ v) := by
  refine ⟨?_, ?_, ?_, block_set h.x v, grown_far h.g (by omega) k v⟩
  · rw [Below.heap_setCell _ _ _ _ (by show _ ≠ w.heap.size + 3; omega)]; exact h.p
  · rw [Below.heap_setCell _ _ _ _ (by show _ ≠ w.heap.size + 3; omega)]; exact h.q
  · rw [Below.heap_setCell _ _ _ _ (by show _ ≠ w.heap.size + 3; omega)]; exact h.z

set_option maxHeartbeats 3200000 in
theorem onStep_is (p q : Smp) (s : Int) (hp : SmpIn p) (hq : SmpIn q) (h0 : p.t ≤ s) (h1 : s ≤ q.t) (hpq : p.t < q.t) (w : World) {x : Smp} (h : Hid (onV p q s = x)) :
    Calls Try.prog 119 #[smpVal p, smpVal q, .int .i64 s] w fun e w' => e = .returned (smpVal x) ∧ w.grownBy w' none := by
  obtain ⟨pt, px, py, pz, pp, pq, ps⟩ := p
  obtain ⟨qt, qx, qy, qz, qp, qq, qs⟩ := q
  unfold SmpIn inPlane at hp hq
  simp only at hp hq h0 h1 hpq
  obtain ⟨nx, hnx⟩ : ∃ n, btwV px qx (s - pt) (qt - pt) = n := ⟨_, rfl⟩
  obtain ⟨ny, hny⟩ : ∃ n, btwV py qy (s - pt) (qt - pt) = n := ⟨_, rfl⟩
  obtain ⟨nz, hnz⟩ : ∃ n, btwV pz qz (s - pt) (qt - pt) = n := ⟨_, rfl⟩
  have HR : Hid (smpVal x = .agg #[.int .i64 s, .int .i64 nx, .int .i64 ny, .int .i64 nz, .int .i64 pp, .int .i64 pq, .int .i64 ps]) := by
    show _ = _; rw [← h.out]; unfold onV smpVal; simp only; rw [hnx, hny, hnz]
  have r1 : IntKind.i64.wrap (s - pt) = s - pt := IntWalk.i64_in _ (by omega)
  have r2 : IntKind.i64.wrap (qt - pt) = qt - pt := IntWalk.i64_in _ (by omega)
  have KX : Hid (∀ V : World, Calls Try.prog 162 #[.int .i64 px, .int .i64 qx, .int .i64 (s - pt), .int .i64 (qt - pt)] V fun e w' => e = .returned (.int .i64 nx) ∧ V.grownBy w' none) := fun V => between_is px qx (s - pt) (qt - pt) (by omega) (by omega) (by omega) (by omega) (by omega) (by omega) (by omega) (by omega) V hnx
  have KY : Hid (∀ V : World, Calls Try.prog 162 #[.int .i64 py, .int .i64 qy, .int .i64 (s - pt), .int .i64 (qt - pt)] V fun e w' => e = .returned (.int .i64 ny) ∧ V.grownBy w' none) := fun V => between_is py qy (s - pt) (qt - pt) (by omega) (by omega) (by omega) (by omega) (by omega) (by omega) (by omega) (by omega) V hny
  have KZ : Hid (∀ V : World, Calls Try.prog 162 #[.int .i64 pz, .int .i64 qz, .int .i64 (s - pt), .int .i64 (qt - pt)] V fun e w' => e = .returned (.int .i64 nz) ∧ V.grownBy w' none) := fun V => between_is pz qz (s - pt) (qt - pt) (by omega) (by omega) (by omega) (by omega) (by omega) (by omega) (by omega) (by omega) V hnz
  clear hnx hny hnz h hp hq h0 h1 hpq
  unfold smpVal at HR ⊢
  simp only at HR ⊢
  go_enter Try.func119, Try.ntmps119
  go_wp2_with fail
  go_quiet (fail)
  obtain ⟨V0, hV0⟩ : ∃ V0, ((((w.alloc (.cells #[.int .i64 pt, .int .i64 px, .int .i64 py, .int .i64 pz, .int .i64 pp, .int .i64 pq, .int .i64 ps] 28)).alloc (.cells #[.int .i64 qt, .int .i64 qx, .int .i64 qy, .int .i64 qz, .int .i64 qp, .int .i64 qq, .int .i64 qs] 28)).alloc (.cells #[.int .i64 0, .int .i64 0, .int .i64 0, .int .i64 0, .int .i64 0, .int .i64 0, .int .i64 0] 28)).drewN nq) = V0 := ⟨_, rfl⟩
  have e0 : V0.heap = (((w.alloc (.cells #[.int .i64 pt, .int .i64 px, .int .i64 py, .int .i64 pz, .int .i64 pp, .int .i64 pq, .int .i64 ps] 28)).alloc (.cells #[.int .i64 qt, .int .i64 qx, .int .i64 qy, .int .i64 qz, .int .i64 qp, .int .i64 qq, .int .i64 qs] 28)).alloc (.cells #[.int .i64 0, .int .i64 0, .int .i64 0, .int .i64 0, .int .i64 0, .int .i64 0, .int .i64 0] 28)).heap := by rw [← hV0]; rfl
  have hs : V0.heap.size = w.heap.size + 3 := by rw [e0]; simp
  have hp0 : V0.heap[w.heap.size]? = some (.cells #[.int .i64 pt, .int .i64 px, .int .i64 py, .int .i64 pz, .int .i64 pp, .int .i64 pq, .int .i64 ps] 28 (0, 0)) := by
    rw [e0, Below.heap_alloc _ _ _ (by simp; omega), Below.heap_alloc _ _ _ (by simp)]; exact heap_alloc_new w _
  have hq0 : V0.heap[w.heap.size + 1]? = some (.cells #[.int .i64 qt, .int .i64 qx, .int .i64 qy, .int .i64 qz, .int .i64 qp, .int .i64 qq, .int .i64 qs] 28 (0, 0)) := by
    rw [e0, Below.heap_alloc _ _ _ (by simp)]
    have := heap_alloc_new (w.alloc (.cells #[.int .i64 pt, .int .i64 px, .int .i64 py, .int .i64 pz, .int .i64 pp, .int .i64 pq, .int .i64 ps] 28)) (.cells #[.int .i64 qt, .int .i64 qx, .int .i64 qy, .int .i64 qz, .int .i64 qp, .int .i64 qq, .int .i64 qs] 28); simpa using this
  have hz0 : V0.heap[w.heap.size + 2]? = some (.cells #[.int .i64 0, .int .i64 0, .int .i64 0, .int .i64 0, .int .i64 0, .int .i64 0, .int .i64 0] 28 (0, 0)) := by
    rw [e0]
    have := heap_alloc_new ((w.alloc (.cells #[.int .i64 pt, .int .i64 px, .int .i64 py, .int .i64 pz, .int .i64 pp, .int .i64 pq, .int .i64 ps] 28)).alloc (.cells #[.int .i64 qt, .int .i64 qx, .int .i64 qy, .int .i64 qz, .int .i64 qp, .int .i64 qq, .int .i64 qs] 28)) (.cells #[.int .i64 0, .int .i64 0, .int .i64 0, .int .i64 0, .int .i64 0, .int .i64 0, .int .i64 0] 28); simpa using this
  have hg0 : w.grownBy V0 none := by rw [← hV0]; exact grown_trans (grown_trans (grown_trans (World.grownBy_alloc _ _ none) (World.grownBy_alloc _ _ none)) (World.grownBy_alloc _ _ none)) (grown_drewN _ _ _)
  have M0 : Hid (OnM w #[.int .i64 pt, .int .i64 px, .int .i64 py, .int .i64 pz, .int .i64 pp, .int .i64 pq, .int .i64 ps] #[.int .i64 qt, .int .i64 qx, .int .i64 qy, .int .i64 qz, .int .i64 qp, .int .i64 qq, .int .i64 qs] #[.int .i64 0, .int .i64 0, .int .i64 0, .int .i64 0, .int .i64 0, .int .i64 0, .int .i64 0] #[.int .i64 s, .int .i64 px, .int .i64 py, .int .i64 pz, .int .i64 pp, .int .i64 pq, .int .i64 ps] (V0.alloc (.cells #[.int .i64 s, .int .i64 px, .int .i64 py, .int .i64 pz, .int .i64 pp, .int .i64 pq, .int .i64 ps] 28))) := by
    have gg := World.grownBy_alloc V0 (.cells #[.int .i64 s, .int .i64 px, .int .i64 py, .int .i64 pz, .int .i64 pp, .int .i64 pq, .int .i64 ps] 28) none
    refine ⟨(gg.block _ (lt_of_block hp0) (by simp)).trans hp0, (gg.block _ (lt_of_block hq0) (by simp)).trans hq0, (gg.block _ (lt_of_block hz0) (by simp)).trans hz0, ?_, grown_trans hg0 gg⟩
    rw [← hs]; exact heap_alloc_new V0 _
  rw [hV0]
  have p0 := block_cell hp0 0 _ rfl
  have p1 := block_cell hp0 1 _ rfl
  have p2 := block_cell hp0 2 _ rfl
  have p3 := block_cell hp0 3 _ rfl
  have p4 := block_cell hp0 4 _ rfl
  have p5 := block_cell hp0 5 _ rfl
  have p6 := block_cell hp0 6 _ rfl
  have q1 := block_cell M0.out.p 1 _ rfl
  have q2 := block_cell M0.out.q 1 _ rfl
  clear hV0 e0 hp0 hq0 hz0 hg0
  go_wp2_with fail
  refine (KX.out _).mono ?_; rintro e w1 ⟨rfl, hg1⟩
  have M1 := Lib.hid (M0.out.grown hg1)
  have s1 := block_cell M1.out.x 1 _ rfl
  have f1 := block_free (k := 1) M1.out.x
  have N1 := Lib.hid (M1.out.set 1 (.int .i64 nx))
  have a1 := block_cell N1.out.p 2 _ rfl
  have b1 := block_cell N1.out.q 2 _ rfl
  clear hg1 p0 p1 p2 p3 p4 p5 p6 q1 q2 hs
  go_wp2_with fail
  clear a1 b1 s1 f1
  refine (KY.out _).mono ?_; rintro e w2 ⟨rfl, hg2⟩
  have M2 := Lib.hid (N1.out.grown hg2)
  have s2 := block_cell M2.out.x 2 _ rfl
  have f2 := block_free (k := 2) M2.out.x
  have N2 := Lib.hid (M2.out.set 2 (.int .i64 ny))
  have a2 := block_cell N2.out.p 3 _ rfl
  have b2 := block_cell N2.out.q 3 _ rfl
  clear hg2
  go_wp2_with fail
  clear a2 b2 s2 f2
  refine (KZ.out _).mono ?_; rintro e w3 ⟨rfl, hg3⟩
  have M3 := Lib.hid (N2.out.grown hg3)
  have s3 := block_cell M3.out.x 3 _ rfl
  have f3 := block_free (k := 3) M3.out.x
  have N3 := Lib.hid (M3.out.set 3 (.int .i64 nz))
  have c0 := block_cell N3.out.x 0 _ rfl
  have z0 := block_cell N3.out.z 0 _ rfl
  have y0 := block_free (k := 0) N3.out.z
  have c1 := block_cell N3.out.x 1 _ rfl
  have z1 := block_cell N3.out.z 1 _ rfl
  have y1 := block_free (k := 1) N3.out.z
  have c2 := block_cell N3.out.x 2 _ rfl
  have z2 := block_cell N3.out.z 2 _ rfl
  have y2 := block_free (k := 2) N3.out.z
  have c3 := block_cell N3.out.x 3 _ rfl
  have z3 := block_cell N3.out.z 3 _ rfl
  have y3 := block_free (k := 3) N3.out.z
  have c4 := block_cell N3.out.x 4 _ rfl
  have z4 := block_cell N3.out.z 4 _ rfl
  have y4 := block_free (k := 4) N3.out.z
  have c5 := block_cell N3.out.x 5 _ rfl
  have z5 := block_cell N3.out.z 5 _ rfl
  have y5 := block_free (k := 5) N3.out.z
  have c6 := block_cell N3.out.x 6 _ rfl
  have z6 := block_cell N3.out.z 6 _ rfl
  have y6 := block_free (k := 6) N3.out.z
  clear hg3
  go_wp2_with fail
  refine bodyPost_ret (v := .agg #[.int .i64 s, .int .i64 nx, .int .i64 ny, .int .i64 nz, .int .i64 pp, .int .i64 pq, .int .i64 ps]) (by simp [results, Try.results119, go_sem, z0, z1, z2, z3, z4, z5, z6]) rfl ⟨by rw [HR.out], ?_⟩
  exact grown_far (grown_far (grown_far (grown_far (grown_far (grown_far (grown_far N3.out.g (by omega) _ _) (by omega) _ _) (by omega) _ _) (by omega) _ _) (by omega) _ _) (by omega) _ _) (by omega) _ _
end Go.Proofs.Ytgkhhfojioepgaa
namespace Go.Proofs.Ytgkhhfojioepgaa
open Go.RowKit
set_option linter.unusedSimpArgs false
set_option linter.unusedVariables false

structure AtM (w : World) (P Q : Array Value) (W : World) : Prop where
  p : W.heap[w.heap.size]? = some (.cells P 28 (0, 0))
  q : W.heap[w.heap.size + 1]? = some (.cells Q 28 (0, 0))
  z : ∃ Z : Array Value, Z.size = 7 ∧ W.heap[w.heap.size + 2]? = some (.cells Z 28 (0, 0))
  g : w.grownBy W none
theorem AtM.grown {w W W' : World} {P Q : Array Value} (h : AtM w P Q W) (hg : W.grownBy W' none) : AtM w P Q W' := by
  have k : ∀ {B : Nat} {o : Obj}, W.heap[B]? = some o → W'.heap[B]? = some o := fun {B o} h => (hg.block B (Array.getElem?_eq_some_iff.1 h).1 (by simp)).trans h
  obtain ⟨Z, h1, h2⟩ := h.z
  exact ⟨k h.p, k h.q, ⟨Z, h1, k h2⟩, grown_trans h.g hg⟩
theorem AtM.set {w W : World} {P Q : Array Value} (h : AtM w P Q W) (k : Nat) (v : Value) : AtM w P Q (W.setCell ⟨w.heap.size + 2, k, none⟩ v) := by
  obtain ⟨Z, h1, h2⟩ := h.z
  refine ⟨?_, ?_, ⟨Z.setIfInBounds k v, by simpa using h1, block_set h2 v⟩, grown_far h.g (by omega) k v⟩
  · rw [Below.heap_setCell _ _ _ _ (by show _ ≠ w.heap.size + 2; omega)]; exact h.p
  · rw [Below.heap_setCell _ _ _ _ (by show _ ≠ w.heap.size + 2; omega)]; exact h.q

set_option maxRecDepth 100000 in
set_option maxHeartbeats 3200000 in
theorem rat_is (p q : Smp) (s : Int) (hp : SmpIn p) (hq : SmpIn q) (h0 : p.t ≤ s) (h1 : s ≤ q.t) (hpq : p.t < q.t) (w : World) {x : Smp} (h : Hid (onV p q s = x)) :
    Calls Try.prog 124 #[smpVal p, smpVal q, .int .i64 s] w fun e w' => e = .returned (smpVal x) ∧ w.grownBy w' none := by
  obtain ⟨pt, px, py, pz, pp, pq, ps⟩ := p
  obtain ⟨qt, qx, qy, qz, qp, qq, qs⟩ := q
  unfold SmpIn inPlane at hp hq
  simp only at hp hq h0 h1 hpq
  obtain ⟨nx, hnx⟩ : ∃ n, btwV px qx (s - pt) (qt - pt) = n := ⟨_, rfl⟩
  obtain ⟨ny, hny⟩ : ∃ n, btwV py qy (s - pt) (qt - pt) = n := ⟨_, rfl⟩
  obtain ⟨nz, hnz⟩ : ∃ n, btwV pz qz (s - pt) (qt - pt) = n := ⟨_, rfl⟩
  have HR : Hid (smpVal x = .agg #[.int .i64 s, .int .i64 nx, .int .i64 ny, .int .i64 nz, .int .i64 pp, .int .i64 pq, .int .i64 ps]) := by
    show _ = _; rw [← h.out]; unfold onV smpVal; simp only; rw [hnx, hny, hnz]
  have r1 : IntKind.i64.wrap (s - pt) = s - pt := IntWalk.i64_in _ (by omega)
  have r2 : IntKind.i64.wrap (qt - pt) = qt - pt := IntWalk.i64_in _ (by omega)
  have KX : Hid (∀ V : World, Calls Try.prog 97 #[.int .i64 px, .int .i64 qx, .int .i64 (s - pt), .int .i64 (qt - pt)] V fun e w' => e = .returned (.int .i64 nx) ∧ V.grownBy w' none) := fun V => rbetween_is px qx (s - pt) (qt - pt) (by omega) (by omega) (by omega) (by omega) (by omega) (by omega) (by omega) (by omega) V hnx
  have KY : Hid (∀ V : World, Calls Try.prog 97 #[.int .i64 py, .int .i64 qy, .int .i64 (s - pt), .int .i64 (qt - pt)] V fun e w' => e = .returned (.int .i64 ny) ∧ V.grownBy w' none) := fun V => rbetween_is py qy (s - pt) (qt - pt) (by omega) (by omega) (by omega) (by omega) (by omega) (by omega) (by omega) (by omega) V hny
  have KZ : Hid (∀ V : World, Calls Try.prog 97 #[.int .i64 pz, .int .i64 qz, .int .i64 (s - pt), .int .i64 (qt - pt)] V fun e w' => e = .returned (.int .i64 nz) ∧ V.grownBy w' none) := fun V => rbetween_is pz qz (s - pt) (qt - pt) (by omega) (by omega) (by omega) (by omega) (by omega) (by omega) (by omega) (by omega) V hnz
  clear hnx hny hnz h hp hq h0 h1 hpq
  unfold smpVal at HR ⊢
  simp only at HR ⊢
  go_enter Try.func124, Try.ntmps124
  go_wp2_with fail
  go_quiet (fail)
  obtain ⟨V0, hV0⟩ : ∃ V0, ((((w.alloc (.cells #[.int .i64 pt, .int .i64 px, .int .i64 py, .int .i64 pz, .int .i64 pp, .int .i64 pq, .int .i64 ps] 28)).alloc (.cells #[.int .i64 qt, .int .i64 qx, .int .i64 qy, .int .i64 qz, .int .i64 qp, .int .i64 qq, .int .i64 qs] 28)).alloc (.cells #[.int .i64 0, .int .i64 0, .int .i64 0, .int .i64 0, .int .i64 0, .int .i64 0, .int .i64 0] 28)).drewN nq) = V0 := ⟨_, rfl⟩
  have e0 : V0.heap = (((w.alloc (.cells #[.int .i64 pt, .int .i64 px, .int .i64 py, .int .i64 pz, .int .i64 pp, .int .i64 pq, .int .i64 ps] 28)).alloc (.cells #[.int .i64 qt, .int .i64 qx, .int .i64 qy, .int .i64 qz, .int .i64 qp, .int .i64 qq, .int .i64 qs] 28)).alloc (.cells #[.int .i64 0, .int .i64 0, .int .i64 0, .int .i64 0, .int .i64 0, .int .i64 0, .int .i64 0] 28)).heap := by rw [← hV0]; rfl
  have M0 : AtM w #[.int .i64 pt, .int .i64 px, .int .i64 py, .int .i64 pz, .int .i64 pp, .int .i64 pq, .int .i64 ps] #[.int .i64 qt, .int .i64 qx, .int .i64 qy, .int .i64 qz, .int .i64 qp, .int .i64 qq, .int .i64 qs] V0 := by
    refine ⟨?_, ?_, ⟨#[.int .i64 0, .int .i64 0, .int .i64 0, .int .i64 0, .int .i64 0, .int .i64 0, .int .i64 0], rfl, ?_⟩, ?_⟩
    · rw [e0, Below.heap_alloc _ _ _ (by simp; omega), Below.heap_alloc _ _ _ (by simp)]; exact heap_alloc_new w _
    · rw [e0, Below.heap_alloc _ _ _ (by simp)]
      have := heap_alloc_new (w.alloc (.cells #[.int .i64 pt, .int .i64 px, .int .i64 py, .int .i64 pz, .int .i64 pp, .int .i64 pq, .int .i64 ps] 28)) (.cells #[.int .i64 qt, .int .i64 qx, .int .i64 qy, .int .i64 qz, .int .i64 qp, .int .i64 qq, .int .i64 qs] 28); simpa using this
    · rw [e0]
      have := heap_alloc_new ((w.alloc (.cells #[.int .i64 pt, .int .i64 px, .int .i64 py, .int .i64 pz, .int .i64 pp, .int .i64 pq, .int .i64 ps] 28)).alloc (.cells #[.int .i64 qt, .int .i64 qx, .int .i64 qy, .int .i64 qz, .int .i64 qp, .int .i64 qq, .int .i64 qs] 28)) (.cells #[.int .i64 0, .int .i64 0, .int .i64 0, .int .i64 0, .int .i64 0, .int .i64 0, .int .i64 0] 28); simpa using this
    · rw [← hV0]; exact grown_trans (grown_trans (grown_trans (World.grownBy_alloc _ _ none) (World.grownBy_alloc _ _ none)) (World.grownBy_alloc _ _ none)) (grown_drewN _ _ _)
  have MD := Lib.hid (M0.grown (grown_drewN V0 _ 1))
  rw [hV0]
  clear hV0 e0 M0
  go_wp2_with fail
  refine wp_region_held_drew (S := fun V => AtM w #[.int .i64 pt, .int .i64 px, .int .i64 py, .int .i64 pz, .int .i64 pp, .int .i64 pq, .int .i64 ps] #[.int .i64 qt, .int .i64 qx, .int .i64 qy, .int .i64 qz, .int .i64 qp, .int .i64 qq, .int .i64 qs] V) (by kernel_rfl) MD.out (fun hHeld => ?_)
  refine wpAnyH_take (i := 0) (oi := ?oi0) (v := .int .i64 s) ?hi0 (by kernel_rfl) (by kernel_rfl) (by kernel_rfl) ?hq0 ?hy0 hHeld ?rest0
  case hi0 => simp only [List.getElem?_toArray, List.getElem?_cons_zero, Option.some.injEq]; rfl
  case hq0 => exact fun _ _ _ h => h
  case hy0 =>
    refine Or.inl ⟨by kernel_rfl, fun V hV => ?_⟩
    clear hV
    go_simp
  try simp only [Go.Act.put, List.setIfInBounds_toArray, List.set_cons_zero, List.set_cons_succ]
  refine wpAnyH_take (i := 1) (oi := ?oi1) (v := .pointer (some ⟨w.heap.size, 1, none⟩)) ?hi1 (by kernel_rfl) (by kernel_rfl) (by kernel_rfl) ?hq1 ?hy1 hHeld ?rest1
  case hi1 => simp only [List.getElem?_toArray, List.getElem?_cons_succ, List.getElem?_cons_zero, Option.some.injEq]; rfl
  case hq1 => exact fun _ _ _ h => h
  case hy1 =>
    refine Or.inl ⟨by kernel_rfl, fun V hV => ?_⟩
    clear hV
    go_simp
  try simp only [Go.Act.put, List.setIfInBounds_toArray, List.set_cons_zero, List.set_cons_succ]
  refine wpAnyH_take (i := 2) (oi := ?oi2) (v := .int .i64 px) ?hi2 (by kernel_rfl) (by kernel_rfl) (by kernel_rfl) ?hq2 ?hy2 hHeld ?rest2
  case hi2 => simp only [List.getElem?_toArray, List.getElem?_cons_succ, List.getElem?_cons_zero, Option.some.injEq]; rfl
  case hq2 => exact fun _ _ _ h => h
  case hy2 =>
    refine Or.inl ⟨by kernel_rfl, fun V hV => ?_⟩
    have q1 := block_cell (AtM.p hV) 1 _ rfl; clear hV
    go_simp
  try simp only [Go.Act.put, List.setIfInBounds_toArray, List.set_cons_zero, List.set_cons_succ]
  refine wpAnyH_take (i := 3) (oi := ?oi3) (v := .pointer (some ⟨w.heap.size + 1, 1, none⟩)) ?hi3 (by kernel_rfl) (by kernel_rfl) (by kernel_rfl) ?hq3 ?hy3 hHeld ?rest3
  case hi3 => simp only [List.getElem?_toArray, List.getElem?_cons_succ, List.getElem?_cons_zero, Option.some.injEq]; rfl
  case hq3 => exact fun _ _ _ h => h
  case hy3 =>
    refine Or.inl ⟨by kernel_rfl, fun V hV => ?_⟩
    clear hV
    go_simp
  try simp only [Go.Act.put, List.setIfInBounds_toArray, List.set_cons_zero, List.set_cons_succ]
  refine wpAnyH_take (i := 4) (oi := ?oi4) (v := .int .i64 qx) ?hi4 (by kernel_rfl) (by kernel_rfl) (by kernel_rfl) ?hq4 ?hy4 hHeld ?rest4
  case hi4 => simp only [List.getElem?_toArray, List.getElem?_cons_succ, List.getElem?_cons_zero, Option.some.injEq]; rfl
  case hq4 => exact fun _ _ _ h => h
  case hy4 =>
    refine Or.inl ⟨by kernel_rfl, fun V hV => ?_⟩
    have q1 := block_cell (AtM.q hV) 1 _ rfl; clear hV
    go_simp
  try simp only [Go.Act.put, List.setIfInBounds_toArray, List.set_cons_zero, List.set_cons_succ]
  refine wpAnyH_take (i := 5) (oi := ?oi5) (v := .int .i64 (s - pt)) ?hi5 (by kernel_rfl) (by kernel_rfl) (by kernel_rfl) ?hq5 ?hy5 hHeld ?rest5
  case hi5 => simp only [List.getElem?_toArray, List.getElem?_cons_succ, List.getElem?_cons_zero, Option.some.injEq]; rfl
  case hq5 => exact fun _ _ _ h => h
  case hy5 =>
    refine Or.inl ⟨by kernel_rfl, fun V hV => ?_⟩
    clear hV
    go_simp
  try simp only [Go.Act.put, List.setIfInBounds_toArray, List.set_cons_zero, List.set_cons_succ]
  refine wpAnyH_take (i := 6) (oi := ?oi6) (v := .int .i64 (qt - pt)) ?hi6 (by kernel_rfl) (by kernel_rfl) (by kernel_rfl) ?hq6 ?hy6 hHeld ?rest6
  case hi6 => simp only [List.getElem?_toArray, List.getElem?_cons_succ, List.getElem?_cons_zero, Option.some.injEq]; rfl
  case hq6 => exact fun _ _ _ h => h
  case hy6 =>
    refine Or.inl ⟨by kernel_rfl, fun V hV => ?_⟩
    clear hV
    go_simp
  try simp only [Go.Act.put, List.setIfInBounds_toArray, List.set_cons_zero, List.set_cons_succ]
  refine wpAnyH_take (i := 8) (oi := ?oi8) (v := .pointer (some ⟨w.heap.size, 2, none⟩)) ?hi8 (by kernel_rfl) (by kernel_rfl) (by kernel_rfl) ?hq8 ?hy8 hHeld ?rest8
  case hi8 => simp only [List.getElem?_toArray, List.getElem?_cons_succ, List.getElem?_cons_zero, Option.some.injEq]; rfl
  case hq8 => exact fun _ _ _ h => h
  case hy8 =>
    refine Or.inl ⟨by kernel_rfl, fun V hV => ?_⟩
    clear hV
    go_simp
  try simp only [Go.Act.put, List.setIfInBounds_toArray, List.set_cons_zero, List.set_cons_succ]
  refine wpAnyH_take (i := 9) (oi := ?oi9) (v := .int .i64 py) ?hi9 (by kernel_rfl) (by kernel_rfl) (by kernel_rfl) ?hq9 ?hy9 hHeld ?rest9
  case hi9 => simp only [List.getElem?_toArray, List.getElem?_cons_succ, List.getElem?_cons_zero, Option.some.injEq]; rfl
  case hq9 => exact fun _ _ _ h => h
  case hy9 =>
    refine Or.inl ⟨by kernel_rfl, fun V hV => ?_⟩
    have q1 := block_cell (AtM.p hV) 2 _ rfl; clear hV
    go_simp
  try simp only [Go.Act.put, List.setIfInBounds_toArray, List.set_cons_zero, List.set_cons_succ]
  refine wpAnyH_take (i := 10) (oi := ?oi10) (v := .pointer (some ⟨w.heap.size + 1, 2, none⟩)) ?hi10 (by kernel_rfl) (by kernel_rfl) (by kernel_rfl) ?hq10 ?hy10 hHeld ?rest10
  case hi10 => simp only [List.getElem?_toArray, List.getElem?_cons_succ, List.getElem?_cons_zero, Option.some.injEq]; rfl
  case hq10 => exact fun _ _ _ h => h
  case hy10 =>
    refine Or.inl ⟨by kernel_rfl, fun V hV => ?_⟩
    clear hV
    go_simp
  try simp only [Go.Act.put, List.setIfInBounds_toArray, List.set_cons_zero, List.set_cons_succ]
  refine wpAnyH_take (i := 11) (oi := ?oi11) (v := .int .i64 qy) ?hi11 (by kernel_rfl) (by kernel_rfl) (by kernel_rfl) ?hq11 ?hy11 hHeld ?rest11
  case hi11 => simp only [List.getElem?_toArray, List.getElem?_cons_succ, List.getElem?_cons_zero, Option.some.injEq]; rfl
  case hq11 => exact fun _ _ _ h => h
  case hy11 =>
    refine Or.inl ⟨by kernel_rfl, fun V hV => ?_⟩
    have q1 := block_cell (AtM.q hV) 2 _ rfl; clear hV
    go_simp
  try simp only [Go.Act.put, List.setIfInBounds_toArray, List.set_cons_zero, List.set_cons_succ]
  refine wpAnyH_take (i := 12) (oi := ?oi12) (v := .int .i64 (s - pt)) ?hi12 (by kernel_rfl) (by kernel_rfl) (by kernel_rfl) ?hq12 ?hy12 hHeld ?rest12
  case hi12 => simp only [List.getElem?_toArray, List.getElem?_cons_succ, List.getElem?_cons_zero, Option.some.injEq]; rfl
  case hq12 => exact fun _ _ _ h => h
  case hy12 =>
    refine Or.inl ⟨by kernel_rfl, fun V hV => ?_⟩
    clear hV
    go_simp
  try simp only [Go.Act.put, List.setIfInBounds_toArray, List.set_cons_zero, List.set_cons_succ]
  refine wpAnyH_take (i := 13) (oi := ?oi13) (v := .int .i64 (qt - pt)) ?hi13 (by kernel_rfl) (by kernel_rfl) (by kernel_rfl) ?hq13 ?hy13 hHeld ?rest13
  case hi13 => simp only [List.getElem?_toArray, List.getElem?_cons_succ, List.getElem?_cons_zero, Option.some.injEq]; rfl
  case hq13 => exact fun _ _ _ h => h
  case hy13 =>
    refine Or.inl ⟨by kernel_rfl, fun V hV => ?_⟩
    clear hV
    go_simp
  try simp only [Go.Act.put, List.setIfInBounds_toArray, List.set_cons_zero, List.set_cons_succ]
  refine wpAnyH_take (i := 15) (oi := ?oi15) (v := .pointer (some ⟨w.heap.size, 3, none⟩)) ?hi15 (by kernel_rfl) (by kernel_rfl) (by kernel_rfl) ?hq15 ?hy15 hHeld ?rest15
  case hi15 => simp only [List.getElem?_toArray, List.getElem?_cons_succ, List.getElem?_cons_zero, Option.some.injEq]; rfl
  case hq15 => exact fun _ _ _ h => h
  case hy15 =>
    refine Or.inl ⟨by kernel_rfl, fun V hV => ?_⟩
    clear hV
    go_simp
  try simp only [Go.Act.put, List.setIfInBounds_toArray, List.set_cons_zero, List.set_cons_succ]
  refine wpAnyH_take (i := 16) (oi := ?oi16) (v := .int .i64 pz) ?hi16 (by kernel_rfl) (by kernel_rfl) (by kernel_rfl) ?hq16 ?hy16 hHeld ?rest16
  case hi16 => simp only [List.getElem?_toArray, List.getElem?_cons_succ, List.getElem?_cons_zero, Option.some.injEq]; rfl
  case hq16 => exact fun _ _ _ h => h
  case hy16 =>
    refine Or.inl ⟨by kernel_rfl, fun V hV => ?_⟩
    have q1 := block_cell (AtM.p hV) 3 _ rfl; clear hV
    go_simp
  try simp only [Go.Act.put, List.setIfInBounds_toArray, List.set_cons_zero, List.set_cons_succ]
  refine wpAnyH_take (i := 17) (oi := ?oi17) (v := .pointer (some ⟨w.heap.size + 1, 3, none⟩)) ?hi17 (by kernel_rfl) (by kernel_rfl) (by kernel_rfl) ?hq17 ?hy17 hHeld ?rest17
  case hi17 => simp only [List.getElem?_toArray, List.getElem?_cons_succ, List.getElem?_cons_zero, Option.some.injEq]; rfl
  case hq17 => exact fun _ _ _ h => h
  case hy17 =>
    refine Or.inl ⟨by kernel_rfl, fun V hV => ?_⟩
    clear hV
    go_simp
  try simp only [Go.Act.put, List.setIfInBounds_toArray, List.set_cons_zero, List.set_cons_succ]
  refine wpAnyH_take (i := 18) (oi := ?oi18) (v := .int .i64 qz) ?hi18 (by kernel_rfl) (by kernel_rfl) (by kernel_rfl) ?hq18 ?hy18 hHeld ?rest18
  case hi18 => simp only [List.getElem?_toArray, List.getElem?_cons_succ, List.getElem?_cons_zero, Option.some.injEq]; rfl
  case hq18 => exact fun _ _ _ h => h
  case hy18 =>
    refine Or.inl ⟨by kernel_rfl, fun V hV => ?_⟩
    have q1 := block_cell (AtM.q hV) 3 _ rfl; clear hV
    go_simp
  try simp only [Go.Act.put, List.setIfInBounds_toArray, List.set_cons_zero, List.set_cons_succ]
  refine wpAnyH_take (i := 19) (oi := ?oi19) (v := .int .i64 (s - pt)) ?hi19 (by kernel_rfl) (by kernel_rfl) (by kernel_rfl) ?hq19 ?hy19 hHeld ?rest19
  case hi19 => simp only [List.getElem?_toArray, List.getElem?_cons_succ, List.getElem?_cons_zero, Option.some.injEq]; rfl
  case hq19 => exact fun _ _ _ h => h
  case hy19 =>
    refine Or.inl ⟨by kernel_rfl, fun V hV => ?_⟩
    clear hV
    go_simp
  try simp only [Go.Act.put, List.setIfInBounds_toArray, List.set_cons_zero, List.set_cons_succ]
  refine wpAnyH_take (i := 20) (oi := ?oi20) (v := .int .i64 (qt - pt)) ?hi20 (by kernel_rfl) (by kernel_rfl) (by kernel_rfl) ?hq20 ?hy20 hHeld ?rest20
  case hi20 => simp only [List.getElem?_toArray, List.getElem?_cons_succ, List.getElem?_cons_zero, Option.some.injEq]; rfl
  case hq20 => exact fun _ _ _ h => h
  case hy20 =>
    refine Or.inl ⟨by kernel_rfl, fun V hV => ?_⟩
    clear hV
    go_simp
  try simp only [Go.Act.put, List.setIfInBounds_toArray, List.set_cons_zero, List.set_cons_succ]
  refine wpAnyH_take (i := 22) (oi := ?oi22) (v := .pointer (some ⟨w.heap.size, 4, none⟩)) ?hi22 (by kernel_rfl) (by kernel_rfl) (by kernel_rfl) ?hq22 ?hy22 hHeld ?rest22
  case hi22 => simp only [List.getElem?_toArray, List.getElem?_cons_succ, List.getElem?_cons_zero, Option.some.injEq]; rfl
  case hq22 => exact fun _ _ _ h => h
  case hy22 =>
    refine Or.inl ⟨by kernel_rfl, fun V hV => ?_⟩
    clear hV
    go_simp
  try simp only [Go.Act.put, List.setIfInBounds_toArray, List.set_cons_zero, List.set_cons_succ]
  refine wpAnyH_take (i := 23) (oi := ?oi23) (v := .int .i64 pp) ?hi23 (by kernel_rfl) (by kernel_rfl) (by kernel_rfl) ?hq23 ?hy23 hHeld ?rest23
  case hi23 => simp only [List.getElem?_toArray, List.getElem?_cons_succ, List.getElem?_cons_zero, Option.some.injEq]; rfl
  case hq23 => exact fun _ _ _ h => h
  case hy23 =>
    refine Or.inl ⟨by kernel_rfl, fun V hV => ?_⟩
    have q1 := block_cell (AtM.p hV) 4 _ rfl; clear hV
    go_simp
  try simp only [Go.Act.put, List.setIfInBounds_toArray, List.set_cons_zero, List.set_cons_succ]
  refine wpAnyH_take (i := 24) (oi := ?oi24) (v := .pointer (some ⟨w.heap.size, 5, none⟩)) ?hi24 (by kernel_rfl) (by kernel_rfl) (by kernel_rfl) ?hq24 ?hy24 hHeld ?rest24
  case hi24 => simp only [List.getElem?_toArray, List.getElem?_cons_succ, List.getElem?_cons_zero, Option.some.injEq]; rfl
  case hq24 => exact fun _ _ _ h => h
  case hy24 =>
    refine Or.inl ⟨by kernel_rfl, fun V hV => ?_⟩
    clear hV
    go_simp
  try simp only [Go.Act.put, List.setIfInBounds_toArray, List.set_cons_zero, List.set_cons_succ]
  refine wpAnyH_take (i := 25) (oi := ?oi25) (v := .int .i64 pq) ?hi25 (by kernel_rfl) (by kernel_rfl) (by kernel_rfl) ?hq25 ?hy25 hHeld ?rest25
  case hi25 => simp only [List.getElem?_toArray, List.getElem?_cons_succ, List.getElem?_cons_zero, Option.some.injEq]; rfl
  case hq25 => exact fun _ _ _ h => h
  case hy25 =>
    refine Or.inl ⟨by kernel_rfl, fun V hV => ?_⟩
    have q1 := block_cell (AtM.p hV) 5 _ rfl; clear hV
    go_simp
  try simp only [Go.Act.put, List.setIfInBounds_toArray, List.set_cons_zero, List.set_cons_succ]
  refine wpAnyH_take (i := 26) (oi := ?oi26) (v := .pointer (some ⟨w.heap.size, 6, none⟩)) ?hi26 (by kernel_rfl) (by kernel_rfl) (by kernel_rfl) ?hq26 ?hy26 hHeld ?rest26
  case hi26 => simp only [List.getElem?_toArray, List.getElem?_cons_succ, List.getElem?_cons_zero, Option.some.injEq]; rfl
  case hq26 => exact fun _ _ _ h => h
  case hy26 =>
    refine Or.inl ⟨by kernel_rfl, fun V hV => ?_⟩
    clear hV
    go_simp
  try simp only [Go.Act.put, List.setIfInBounds_toArray, List.set_cons_zero, List.set_cons_succ]
  refine wpAnyH_take (i := 27) (oi := ?oi27) (v := .int .i64 ps) ?hi27 (by kernel_rfl) (by kernel_rfl) (by kernel_rfl) ?hq27 ?hy27 hHeld ?rest27
  case hi27 => simp only [List.getElem?_toArray, List.getElem?_cons_succ, List.getElem?_cons_zero, Option.some.injEq]; rfl
  case hq27 => exact fun _ _ _ h => h
  case hy27 =>
    refine Or.inl ⟨by kernel_rfl, fun V hV => ?_⟩
    have q1 := block_cell (AtM.p hV) 6 _ rfl; clear hV
    go_simp
  try simp only [Go.Act.put, List.setIfInBounds_toArray, List.set_cons_zero, List.set_cons_succ]
  refine wpAnyH_ready (rs := [7]) (by kernel_rfl) (by simp) ?_
  refine AllReadyH.cons rfl (fun K hK => ?_) AllReadyH.nil
  go_simp
  refine (KX.out _).mono ?_
  rintro e w1 ⟨rfl, hgw1⟩
  refine hK.out _ _ (AtM.grown hHeld hgw1) (fun hHeld1 => ?_)
  clear hK K
  try simp only [Go.Act.put, List.setIfInBounds_toArray, List.set_cons_zero, List.set_cons_succ]
  refine wpAnyH_ready (rs := [14]) (by kernel_rfl) (by simp) ?_
  refine AllReadyH.cons rfl (fun K hK => ?_) AllReadyH.nil
  go_simp
  refine (KY.out _).mono ?_
  rintro e w2 ⟨rfl, hgw2⟩
  refine hK.out _ _ (AtM.grown hHeld1 hgw2) (fun hHeld2 => ?_)
  clear hK K
  try simp only [Go.Act.put, List.setIfInBounds_toArray, List.set_cons_zero, List.set_cons_succ]
  refine wpAnyH_ready (rs := [21]) (by kernel_rfl) (by simp) ?_
  refine AllReadyH.cons rfl (fun K hK => ?_) AllReadyH.nil
  go_simp
  refine (KZ.out _).mono ?_
  rintro e w3 ⟨rfl, hgw3⟩
  refine hK.out _ _ (AtM.grown hHeld2 hgw3) (fun hHeld3 => ?_)
  clear hK K
  try simp only [Go.Act.put, List.setIfInBounds_toArray, List.set_cons_zero, List.set_cons_succ]
  refine wpAnyH_take (i := 28) (oi := ?oi28) (v := .agg #[.int .i64 s, .int .i64 nx, .int .i64 ny, .int .i64 nz, .int .i64 pp, .int .i64 pq, .int .i64 ps]) ?hi28 (by kernel_rfl) (by kernel_rfl) (by kernel_rfl) ?hq28 ?hy28 hHeld3 ?rest28
  case hi28 => simp only [List.getElem?_toArray, List.getElem?_cons_succ, List.getElem?_cons_zero, Option.some.injEq]; rfl
  case hq28 => exact fun _ _ _ h => h
  case hy28 =>
    refine Or.inl ⟨by kernel_rfl, fun V hV => ?_⟩
    clear hV
    go_simp
  try simp only [Go.Act.put, List.setIfInBounds_toArray, List.set_cons_zero, List.set_cons_succ]
  refine wpAnyH_ready (rs := [29]) (by kernel_rfl) (by simp) ?_
  refine AllReadyH.cons rfl (fun K hK => ?_) AllReadyH.nil
  obtain ⟨Z, hZ, hz⟩ := hHeld3.z
  have z0 := block_cell hz 0 _ (Array.getElem?_eq_getElem (by omega))
  have y0 := block_free (k := 0) hz
  have z1 := block_cell hz 1 _ (Array.getElem?_eq_getElem (by omega))
  have y1 := block_free (k := 1) hz
  have z2 := block_cell hz 2 _ (Array.getElem?_eq_getElem (by omega))
  have y2 := block_free (k := 2) hz
  have z3 := block_cell hz 3 _ (Array.getElem?_eq_getElem (by omega))
  have y3 := block_free (k := 3) hz
  have z4 := block_cell hz 4 _ (Array.getElem?_eq_getElem (by omega))
  have y4 := block_free (k := 4) hz
  have z5 := block_cell hz 5 _ (Array.getElem?_eq_getElem (by omega))
  have y5 := block_free (k := 5) hz
  have z6 := block_cell hz 6 _ (Array.getElem?_eq_getElem (by omega))
  have y6 := block_free (k := 6) hz
  have HH3 := Lib.hid hHeld3
  clear hHeld3 hHeld2 hHeld1 hHeld hz
  go_simp
  refine hK.out _ _ (((((((HH3.out.set 0 _).set 1 _).set 2 _).set 3 _).set 4 _).set 5 _).set 6 _) (fun hHeld4 => ?_)
  refine wpAnyH_done (by kernel_rfl) ?_ _
  clear hK K
  have G4 := hHeld4.g
  clear hHeld4
  go_wp2_with fail
  refine bodyPost_ret (v := .agg #[.int .i64 s, .int .i64 nx, .int .i64 ny, .int .i64 nz, .int .i64 pp, .int .i64 pq, .int .i64 ps]) (by simp [results, Try.results124, go_sem, z0, z1, z2, z3, z4, z5, z6]) rfl ⟨by rw [HR.out], G4⟩
end Go.Proofs.Ytgkhhfojioepgaa
namespace Go.Proofs.Ytgkhhfojioepgaa
open Go.RowKit
set_option linter.unusedSimpArgs false
set_option linter.unusedVariables false

/-- The number of the first sample that is not before a second. -/
def SIdx (ss : List Smp) (s : Int) (m : Nat) : Prop := m ≤ ss.length ∧ (∀ j, j < m → (smpD ss j).t < s) ∧ (∀ j, m ≤ j → j < ss.length → s ≤ (smpD ss j).t)
theorem times_le {ss : List Smp} (h : SOk ss) {i j : Nat} (hij : i ≤ j) (hj : j < ss.length) : (smpD ss i).t ≤ (smpD ss j).t := by
  induction j with
  | zero => obtain rfl : i = 0 := (by omega); exact Int.le_refl _
  | succ j ih =>
    rcases Nat.lt_or_ge i (j + 1) with q | q
    · have := ih (by omega) (by omega); have := h.up j hj; omega
    · obtain rfl : i = j + 1 := (by omega); exact Int.le_refl _
theorem sidx_any {ss : List Smp} (h : SOk ss) (s : Int) : ∃ m, SIdx ss s m := by
  have q : ∀ n, n ≤ ss.length → ∃ m, m ≤ n ∧ (∀ j, j < m → (smpD ss j).t < s) ∧ (m < n → s ≤ (smpD ss m).t) := fun n => by
    induction n with
    | zero => intro _; exact ⟨0, Nat.le_refl _, fun j hj => absurd hj (by omega), fun h => absurd h (by omega)⟩
    | succ n ih =>
      intro hn
      obtain ⟨m, h1, h2, h3⟩ := ih (by omega)
      rcases Nat.lt_or_ge m n with r | r
      · exact ⟨m, by omega, h2, fun _ => h3 r⟩
      · obtain rfl : m = n := (by omega)
        rcases Int.lt_or_le (smpD ss m).t s with c | c
        · exact ⟨m + 1, Nat.le_refl _, fun j hj => by
            rcases Nat.lt_or_ge j m with e | e
            · exact h2 j e
            · obtain rfl : j = m := (by omega); exact c, fun h => absurd h (by omega)⟩
        · exact ⟨m, by omega, h2, fun _ => c⟩
  obtain ⟨m, h1, h2, h3⟩ := q _ (Nat.le_refl _)
  exact ⟨m, h1, h2, fun j hj hl => Int.le_trans (h3 (by omega)) (times_le h hj hl)⟩
theorem sidx_one {ss : List Smp} {s : Int} {m k : Nat} (h : SIdx ss s m) (h' : SIdx ss s k) : m = k := by
  rcases Nat.lt_trichotomy m k with q | q | q
  · have a := h'.2.1 m q; have b := h.2.2 m (Nat.le_refl _) (by have := h'.1; omega); omega
  · exact q
  · have a := h.2.1 k q; have b := h'.2.2 k (Nat.le_refl _) (by have := h.1; omega); omega

theorem search1_is (x : Smp) (s : Int) (w : World) {c : Int} (h : Hid (Lib.compareInt x.t s = c)) :
    Calls Try.prog 161 #[.agg #[.int .i64 x.t, .int .i64 x.x, .int .i64 x.y, .int .i64 x.z, .int .i64 x.p, .int .i64 x.q, .int .i64 x.s], .int .i64 s] w fun e w' => e = .returned (.int .i64 c) ∧ w.grownBy w' none := by
  obtain ⟨xt, xx, xy, xz, xp, xq, xs⟩ := x
  simp only at h ⊢
  have G := Lib.hid (World.grownBy_alloc w (.cells #[.int .i64 xt, .int .i64 xx, .int .i64 xy, .int .i64 xz, .int .i64 xp, .int .i64 xq, .int .i64 xs] 28) none)
  go_enter Try.func161, Try.ntmps161
  go_wp2_with fail
  refine (Try.cmp_Compare_int xt s _).mono ?_; rintro e w1 ⟨rfl, rfl⟩
  rw [h.out]
  go_wp2_with fail
  go_ret
  exact ⟨rfl, G.out⟩

set_option maxHeartbeats 1600000 in
theorem bsearch_is (b off cap : Nat) (ss : List Smp) (hl : (ss.length : Int) ≤ 20000) (s : Int) {m : Nat} (HM : Hid (SIdx ss s m)) (w : World) (hs : SmpsAt w (some ⟨b, off, none⟩) ss) {f : Bool} (hf : Hid (decide (m < ss.length ∧ (smpD ss m).t = s) = f)) :
    Calls Try.prog 160 #[.slice (some ⟨b, off, none⟩) ss.length cap, .int .i64 s, .func (.func 161) #[] #[]] w fun e w' => e = .returned (.tuple #[.int .i64 m, .bool f]) ∧ w.grownBy w' none := by
  have HS := Lib.hid hs; clear hs
  go_enter Try.func160, Try.ntmps160
  go_wp2_with fail
  go_loopw [9, 10] (fun s5 s6 wr => ∃ (lo hi : Nat), s5 = .int .i64 lo ∧ s6 = .int .i64 hi ∧ hi ≤ ss.length ∧ Hid (lo ≤ m ∧ m ≤ hi) ∧ Hid (w.grownBy wr none))
    (fun s5 s6 _ => (intOf s6).toNat - (intOf s5).toNat)
  case atStart => exact ⟨0, ss.length, rfl, rfl, Nat.le_refl _, ⟨Nat.zero_le _, HM.out.1⟩, grown_refl _ _⟩
  case round =>
    obtain ⟨lo, hi, rfl, rfl, hin, hM, hg⟩ := hrel
    by_cases hlt : lo < hi
    · obtain ⟨mid, hmid⟩ : ∃ mid, mid = (lo + hi) / 2 := ⟨_, rfl⟩
      have hmi : ((lo : Int) + (hi : Int)) / 2 = (mid : Int) := by omega
      have hml : mid < ss.length := by omega
      have hml2 : (mid : Int) < (ss.length : Int) := by omega
      have HMID := Lib.hid hmid
      obtain ⟨p0, p1, p2, p3, p4, p5, p6⟩ := (HS.out.grown hg.out).cells _ rfl mid hml
      rw [← smpD_at hml] at p0 p1 p2 p3 p4 p5 p6
      simp only at p0 p1 p2 p3 p4 p5 p6
      by_cases hc : (smpD ss mid).t < s
      · have hcv : Hid (Lib.compareInt (smpD ss mid).t s = -1) := by show _ = _; unfold Lib.compareInt; rw [if_pos hc]
        have HM2 : Hid (mid + 1 ≤ m ∧ m ≤ hi) := by
          refine ⟨?_, hM.out.2⟩
          rcases Nat.lt_or_ge mid m with q | q
          · exact q
          · have := HM.out.2.2 mid q hml; omega
        clear hmid
        go_wp2_with fail
        refine (search1_is (smpD ss mid) s _ hcv).mono ?_; rintro e w1 ⟨rfl, hg1⟩
        have GN := Lib.hid (grown_trans hg.out hg1)
        clear hg1 hg p0 p1 p2 p3 p4 p5 p6
        go_wp2_with fail
        go_roundw
        case rel => exact ⟨mid + 1, hi, by go_num, rfl, hin, HM2.out, GN.out⟩
        case measure => have := HMID.out; simp [intOf]; omega
      · obtain ⟨c, hcc⟩ : ∃ c, Lib.compareInt (smpD ss mid).t s = c := ⟨_, rfl⟩
        have hc0 : 0 ≤ c := by rw [← hcc]; unfold Lib.compareInt; rw [if_neg hc]; split <;> omega
        have HCC := Lib.hid hcc
        have HM2 : Hid (lo ≤ m ∧ m ≤ mid) := by
          refine ⟨hM.out.1, ?_⟩
          rcases Nat.lt_or_ge mid m with q | q
          · have := HM.out.2.1 mid q; omega
          · exact q
        have hcd : decide (c < 0) = false := by simp; omega
        clear hmid hcc
        go_wp2_with fail
        refine (search1_is (smpD ss mid) s _ HCC).mono ?_; rintro e w1 ⟨rfl, hg1⟩
        have GN := Lib.hid (grown_trans hg.out hg1)
        clear hg1 hg p0 p1 p2 p3 p4 p5 p6
        go_wp2_with fail
        go_roundw
        case rel => exact ⟨lo, mid, rfl, rfl, by omega, HM2.out, GN.out⟩
        case measure => have := HMID.out; simp [intOf]; omega
    · obtain rfl : lo = m := by have := hM.out; omega
      have hf2 := hf.out
      by_cases hln : lo < ss.length
      · have hml2 : (lo : Int) < (ss.length : Int) := by omega
        obtain ⟨p0, p1, p2, p3, p4, p5, p6⟩ := (HS.out.grown hg.out).cells _ rfl lo hln
        rw [← smpD_at hln] at p0 p1 p2 p3 p4 p5 p6
        simp only at p0 p1 p2 p3 p4 p5 p6
        obtain ⟨c, hcc⟩ : ∃ c, Lib.compareInt (smpD ss lo).t s = c := ⟨_, rfl⟩
        have HCC := Lib.hid hcc
        have hfe : Hid ((c == 0) = f) := by
          show _ = _
          rw [← hf2, ← hcc]
          unfold Lib.compareInt
          by_cases e1 : (smpD ss lo).t < s
          · rw [if_pos e1]; simp; omega
          · rw [if_neg e1]
            by_cases e2 : (smpD ss lo).t > s
            · rw [if_pos e2]; simp; omega
            · rw [if_neg e2]; simp; omega
        clear hcc hf2 hf
        go_wp2_with fail
        refine (search1_is (smpD ss lo) s _ HCC).mono ?_; rintro e w1 ⟨rfl, hg1⟩
        have GN := Lib.hid (grown_trans hg.out hg1)
        clear hg1 hg p0 p1 p2 p3 p4 p5 p6
        go_wp2_with fail
        have hfe2 := hfe.out
        subst hfe2
        go_ret2
        exact ⟨rfl, GN.out⟩
      · have hfe : f = false := by rw [← hf2]; simp; omega
        subst hfe
        have hml2 : ¬ ((lo : Int) < (ss.length : Int)) := by omega
        clear hf2
        go_wp2_with fail
        go_ret2
        exact ⟨rfl, hg.out⟩

theorem searchS_is (b off cap : Nat) (ss : List Smp) (hl : (ss.length : Int) ≤ 20000) (s : Int) {m : Nat} (HM : Hid (SIdx ss s m)) (w : World) (hs : SmpsAt w (some ⟨b, off, none⟩) ss) {f : Bool} (hf : Hid (decide (m < ss.length ∧ (smpD ss m).t = s) = f)) :
    Calls Try.prog 118 #[.slice (some ⟨b, off, none⟩) ss.length cap, .int .i64 s] w fun e w' => e = .returned (.tuple #[.int .i64 m, .bool f]) ∧ w.grownBy w' none := by
  have HS := Lib.hid hs; clear hs
  go_enter Try.func118, Try.ntmps118
  go_wp2_with fail
  refine (bsearch_is b off cap ss hl s HM _ HS.out hf).mono ?_; rintro e w1 ⟨rfl, hg1⟩
  go_wp2_with fail
  go_ret2
  exact ⟨rfl, hg1⟩

/-- Where somebody was at a second, the number of the first sample not before it at hand. -/
noncomputable def atV (ss : List Smp) (s : Int) (m : Nat) : Smp := if (smpD ss m).t = s then smpD ss m else onV (smpD ss (m - 1)) (smpD ss m) s
theorem smpIn_of {ss : List Smp} (h : SOk ss) {i : Nat} (hi : i < ss.length) : SmpIn (smpD ss i) := by
  obtain ⟨a, b, c, d, _⟩ := h.inn i hi
  exact ⟨⟨a, b⟩, c, d.1, d.2⟩
end Go.Proofs.Ytgkhhfojioepgaa
namespace Go.Proofs.Ytgkhhfojioepgaa
open Go.RowKit
set_option linter.unusedSimpArgs false
set_option linter.unusedVariables false

set_option maxRecDepth 100000 in
set_option maxHeartbeats 3200000 in
theorem sampleAt_is (b off cap : Nat) (ss : List Smp) (HS : Hid (SOk ss)) (s : Int) {m : Nat} (HM : Hid (SIdx ss s m)) (hml : m < ss.length) (hs0 : 0 ≤ s) (w : World) (hs : SmpsAt w (some ⟨b, off, none⟩) ss) {x : Smp} (hx : Hid (atV ss s m = x)) :
    Calls Try.prog 57 #[.slice (some ⟨b, off, none⟩) ss.length cap, .int .i64 s] w fun e w' => e = .returned (smpVal x) ∧ w.grownBy w' none := by
  have hl : (ss.length : Int) ≤ 20000 := HS.out.len
  have HA := Lib.hid hs
  have GA := Lib.hid (World.grownBy_alloc w (.cells #[.int .i64 0, .int .i64 0, .int .i64 0, .int .i64 0, .int .i64 0, .int .i64 0, .int .i64 0] 28) none)
  have HZ : Hid ((w.alloc (.cells #[.int .i64 0, .int .i64 0, .int .i64 0, .int .i64 0, .int .i64 0, .int .i64 0, .int .i64 0] 28)).heap[w.heap.size]? = some (.cells #[.int .i64 0, .int .i64 0, .int .i64 0, .int .i64 0, .int .i64 0, .int .i64 0, .int .i64 0] 28 (0, 0))) := heap_alloc_new w _
  have hm2 : (m : Int) < (ss.length : Int) := by omega
  obtain ⟨q0, q1, q2, q3, q4, q5, q6⟩ := hs.cells _ rfl m hml
  rw [← smpD_at hml] at q0 q1 q2 q3 q4 q5 q6
  simp only at q0 q1 q2 q3 q4 q5 q6
  have hxv := hx.out
  unfold atV at hxv
  have hle := HM.out.2.2 m (Nat.le_refl _) hml
  have hqi := smpIn_of HS.out hml
  by_cases he : (smpD ss m).t = s
  · rw [if_pos he] at hxv
    have HF : Hid (decide (m < ss.length ∧ (smpD ss m).t = s) = true) := by show _ = _; simp; exact ⟨hml, he⟩
    clear hx hs hqi hle he
    unfold smpVal
    go_enter Try.func57, Try.ntmps57
    go_wp2_with fail
    refine (searchS_is b off cap ss hl s HM _ (HA.out.grown GA.out) HF).mono ?_; rintro e w1 ⟨rfl, hg1⟩
    have GG := Lib.hid (grown_trans GA.out hg1)
    replace q0 := grown_cell GG.out q0; replace q1 := grown_cell GG.out q1; replace q2 := grown_cell GG.out q2; replace q3 := grown_cell GG.out q3; replace q4 := grown_cell GG.out q4; replace q5 := grown_cell GG.out q5; replace q6 := grown_cell GG.out q6
    have hz := (hg1.block _ (lt_of_block HZ.out) (by simp)).trans HZ.out
    have z0 := block_cell hz 0 _ rfl
    have y0 := block_free (k := 0) hz
    have z1 := block_cell hz 1 _ rfl
    have y1 := block_free (k := 1) hz
    have z2 := block_cell hz 2 _ rfl
    have y2 := block_free (k := 2) hz
    have z3 := block_cell hz 3 _ rfl
    have y3 := block_free (k := 3) hz
    have z4 := block_cell hz 4 _ rfl
    have y4 := block_free (k := 4) hz
    have z5 := block_cell hz 5 _ rfl
    have y5 := block_free (k := 5) hz
    have z6 := block_cell hz 6 _ rfl
    have y6 := block_free (k := 6) hz
    rw [hxv] at q0 q1 q2 q3 q4 q5 q6
    obtain ⟨x0, x1, x2, x3, x4, x5, x6⟩ := x
    simp only at q0 q1 q2 q3 q4 q5 q6
    clear hz hg1 hxv
    go_wp2_with fail
    refine bodyPost_ret (v := .agg #[.int .i64 x0, .int .i64 x1, .int .i64 x2, .int .i64 x3, .int .i64 x4, .int .i64 x5, .int .i64 x6]) (by simp [results, Try.results57, go_sem, z0, z1, z2, z3, z4, z5, z6]) rfl ⟨rfl, ?_⟩
    exact grown_far (grown_far (grown_far (grown_far (grown_far (grown_far (grown_far GG.out (Nat.le_refl _) _ _) (Nat.le_refl _) _ _) (Nat.le_refl _) _ _) (Nat.le_refl _) _ _) (Nat.le_refl _) _ _) (Nat.le_refl _) _ _) (Nat.le_refl _) _ _
  · rw [if_neg he] at hxv
    have HF : Hid (decide (m < ss.length ∧ (smpD ss m).t = s) = false) := by show _ = _; simp; intro _; exact he
    have hm0 : 0 < m := by
      rcases Nat.eq_zero_or_pos m with e | e
      · have h0 := HS.out.t0 (by omega)
        rw [e] at hle he
        omega
      · exact e
    obtain ⟨k, hk⟩ : ∃ k, m - 1 = k := ⟨_, rfl⟩
    have hkl : k < ss.length := by omega
    have hlt := HM.out.2.1 k (by omega)
    have hpi := smpIn_of HS.out hkl
    obtain ⟨p0, p1, p2, p3, p4, p5, p6⟩ := hs.cells _ rfl k hkl
    rw [← smpD_at hkl] at p0 p1 p2 p3 p4 p5 p6
    simp only at p0 p1 p2 p3 p4 p5 p6
    rw [hk] at hxv
    have KO : Hid (∀ V : World, Calls Try.prog 119 #[smpVal (smpD ss k), smpVal (smpD ss m), .int .i64 s] V fun e w' => e = .returned (smpVal x) ∧ V.grownBy w' none) := fun V => onStep_is (smpD ss k) (smpD ss m) s hpi hqi (by omega) hle (by omega) V (Lib.hid hxv)
    have rk : IntKind.i64.wrap ((m : Int) - 1) = (k : Int) := by rw [show (m : Int) - 1 = (k : Int) by omega]; exact IntWalk.i64_in _ (by omega)
    have hk2 : (k : Int) < (ss.length : Int) := by omega
    have hk0 : (0 : Int) ≤ (k : Int) := by omega
    have hm00 : (0 : Int) ≤ (m : Int) := by omega
    have KS : Hid (∀ V : World, SmpsAt V (some ⟨b, off, none⟩) ss → Calls Try.prog 118 #[.slice (some ⟨b, off, none⟩) ss.length cap, .int .i64 s] V fun e w' => e = .returned (.tuple #[.int .i64 m, .bool false]) ∧ V.grownBy w' none) := fun V hV => searchS_is b off cap ss hl s HM V hV HF
    clear HF
    generalize smpD ss k = P at *
    generalize smpD ss m = Q at *
    obtain ⟨pt, px, py, pz, pp, pq, ps⟩ := P
    obtain ⟨qt, qx, qy, qz, qp, qq, qs⟩ := Q
    simp only at p0 p1 p2 p3 p4 p5 p6 q0 q1 q2 q3 q4 q5 q6
    unfold smpVal at KO ⊢
    simp only at KO
    have HPQ := Lib.hid (And.intro (And.intro p0 (And.intro p1 (And.intro p2 (And.intro p3 (And.intro p4 (And.intro p5 p6)))))) (And.intro q0 (And.intro q1 (And.intro q2 (And.intro q3 (And.intro q4 (And.intro q5 q6)))))))
    clear hx hs hqi hle he hpi hlt hxv hk p0 p1 p2 p3 p4 p5 p6 q0 q1 q2 q3 q4 q5 q6
    go_enter Try.func57, Try.ntmps57
    go_wp2_with fail
    refine (KS.out _ (HA.out.grown GA.out)).mono ?_; rintro e w1 ⟨rfl, hg1⟩
    have GG := Lib.hid (grown_trans GA.out hg1)
    have HZ1 := Lib.hid ((hg1.block _ (lt_of_block HZ.out) (by simp)).trans HZ.out)
    have HC : Hid (∀ V, (w.grownBy V none ∧ ∃ c : Array Value, c.size = 7 ∧ V.heap[w.heap.size]? = some (.cells c 28 (0, 0))) → (World.cell? V ⟨b, off + k * 7, none⟩ = some (.int .i64 pt) ∧ World.cell? V ⟨b, off + k * 7 + 1, none⟩ = some (.int .i64 px) ∧ World.cell? V ⟨b, off + k * 7 + 2, none⟩ = some (.int .i64 py) ∧ World.cell? V ⟨b, off + k * 7 + 3, none⟩ = some (.int .i64 pz) ∧ World.cell? V ⟨b, off + k * 7 + 4, none⟩ = some (.int .i64 pp) ∧ World.cell? V ⟨b, off + k * 7 + 5, none⟩ = some (.int .i64 pq) ∧ World.cell? V ⟨b, off + k * 7 + 6, none⟩ = some (.int .i64 ps)) ∧ (World.cell? V ⟨b, off + m * 7, none⟩ = some (.int .i64 qt) ∧ World.cell? V ⟨b, off + m * 7 + 1, none⟩ = some (.int .i64 qx) ∧ World.cell? V ⟨b, off + m * 7 + 2, none⟩ = some (.int .i64 qy) ∧ World.cell? V ⟨b, off + m * 7 + 3, none⟩ = some (.int .i64 qz) ∧ World.cell? V ⟨b, off + m * 7 + 4, none⟩ = some (.int .i64 qp) ∧ World.cell? V ⟨b, off + m * 7 + 5, none⟩ = some (.int .i64 qq) ∧ World.cell? V ⟨b, off + m * 7 + 6, none⟩ = some (.int .i64 qs))) := fun V hV => by
      obtain ⟨⟨p0, p1, p2, p3, p4, p5, p6⟩, q0, q1, q2, q3, q4, q5, q6⟩ := HPQ.out
      exact ⟨⟨grown_cell hV.1 p0, grown_cell hV.1 p1, grown_cell hV.1 p2, grown_cell hV.1 p3, grown_cell hV.1 p4, grown_cell hV.1 p5, grown_cell hV.1 p6⟩, grown_cell hV.1 q0, grown_cell hV.1 q1, grown_cell hV.1 q2, grown_cell hV.1 q3, grown_cell hV.1 q4, grown_cell hV.1 q5, grown_cell hV.1 q6⟩
    clear hg1
    go_wp2_with fail
    refine wp_region_held_drew (S := fun V => w.grownBy V none ∧ ∃ c : Array Value, c.size = 7 ∧ V.heap[w.heap.size]? = some (.cells c 28 (0, 0))) (by kernel_rfl) ⟨grown_trans GG.out (grown_drewN _ _ 1), _, rfl, HZ1.out⟩ (fun hHeld => ?_)
    refine wpAnyH_take (i := 0) (oi := ?oi0) (v := .slice (some ⟨b, off, none⟩) ss.length cap) ?hi0 (by kernel_rfl) (by kernel_rfl) (by kernel_rfl) ?hq0 ?hy0 hHeld ?rest0
    case hi0 => simp only [List.getElem?_toArray, List.getElem?_cons_zero, Option.some.injEq]; rfl
    case hq0 => exact fun _ _ _ h => h
    case hy0 =>
      refine Or.inl ⟨by kernel_rfl, fun V hV => ?_⟩
      clear hV
      go_simp
    try simp only [Go.Act.put, List.setIfInBounds_toArray, List.set_cons_zero, List.set_cons_succ]
    refine wpAnyH_take (i := 1) (oi := ?oi1) (v := .int .i64 (m : Nat)) ?hi1 (by kernel_rfl) (by kernel_rfl) (by kernel_rfl) ?hq1 ?hy1 hHeld ?rest1
    case hi1 => simp only [List.getElem?_toArray, List.getElem?_cons_succ, List.getElem?_cons_zero, Option.some.injEq]; rfl
    case hq1 => exact fun _ _ _ h => h
    case hy1 =>
      refine Or.inl ⟨by kernel_rfl, fun V hV => ?_⟩
      clear hV
      go_simp
    try simp only [Go.Act.put, List.setIfInBounds_toArray, List.set_cons_zero, List.set_cons_succ]
    refine wpAnyH_take (i := 2) (oi := ?oi2) (v := .int .i64 (k : Nat)) ?hi2 (by kernel_rfl) (by kernel_rfl) (by kernel_rfl) ?hq2 ?hy2 hHeld ?rest2
    case hi2 => simp only [List.getElem?_toArray, List.getElem?_cons_succ, List.getElem?_cons_zero, Option.some.injEq]; rfl
    case hq2 => exact fun _ _ _ h => h
    case hy2 =>
      refine Or.inl ⟨by kernel_rfl, fun V hV => ?_⟩
      clear hV
      go_simp
    try simp only [Go.Act.put, List.setIfInBounds_toArray, List.set_cons_zero, List.set_cons_succ]
    refine wpAnyH_take (i := 3) (oi := ?oi3) (v := .pointer (some ⟨b, off + k * 7, none⟩)) ?hi3 (by kernel_rfl) (by kernel_rfl) (by kernel_rfl) ?hq3 ?hy3 hHeld ?rest3
    case hi3 => simp only [List.getElem?_toArray, List.getElem?_cons_succ, List.getElem?_cons_zero, Option.some.injEq]; rfl
    case hq3 => exact fun _ _ _ h => h
    case hy3 =>
      refine Or.inl ⟨by kernel_rfl, fun V hV => ?_⟩
      clear hV
      go_simp
    try simp only [Go.Act.put, List.setIfInBounds_toArray, List.set_cons_zero, List.set_cons_succ]
    refine wpAnyH_take (i := 4) (oi := ?oi4) (v := .agg #[.int .i64 pt, .int .i64 px, .int .i64 py, .int .i64 pz, .int .i64 pp, .int .i64 pq, .int .i64 ps]) ?hi4 (by kernel_rfl) (by kernel_rfl) (by kernel_rfl) ?hq4 ?hy4 hHeld ?rest4
    case hi4 => simp only [List.getElem?_toArray, List.getElem?_cons_succ, List.getElem?_cons_zero, Option.some.injEq]; rfl
    case hq4 => exact fun _ _ _ h => h
    case hy4 =>
      refine Or.inl ⟨by kernel_rfl, fun V hV => ?_⟩
      have H7 := (HC.out V hV).1; obtain ⟨p0, p1, p2, p3, p4, p5, p6⟩ := H7; clear hV
      go_simp
    try simp only [Go.Act.put, List.setIfInBounds_toArray, List.set_cons_zero, List.set_cons_succ]
    refine wpAnyH_take (i := 5) (oi := ?oi5) (v := .slice (some ⟨b, off, none⟩) ss.length cap) ?hi5 (by kernel_rfl) (by kernel_rfl) (by kernel_rfl) ?hq5 ?hy5 hHeld ?rest5
    case hi5 => simp only [List.getElem?_toArray, List.getElem?_cons_succ, List.getElem?_cons_zero, Option.some.injEq]; rfl
    case hq5 => exact fun _ _ _ h => h
    case hy5 =>
      refine Or.inl ⟨by kernel_rfl, fun V hV => ?_⟩
      clear hV
      go_simp
    try simp only [Go.Act.put, List.setIfInBounds_toArray, List.set_cons_zero, List.set_cons_succ]
    refine wpAnyH_take (i := 6) (oi := ?oi6) (v := .int .i64 (m : Nat)) ?hi6 (by kernel_rfl) (by kernel_rfl) (by kernel_rfl) ?hq6 ?hy6 hHeld ?rest6
    case hi6 => simp only [List.getElem?_toArray, List.getElem?_cons_succ, List.getElem?_cons_zero, Option.some.injEq]; rfl
    case hq6 => exact fun _ _ _ h => h
    case hy6 =>
      refine Or.inl ⟨by kernel_rfl, fun V hV => ?_⟩
      clear hV
      go_simp
    try simp only [Go.Act.put, List.setIfInBounds_toArray, List.set_cons_zero, List.set_cons_succ]
    refine wpAnyH_take (i := 7) (oi := ?oi7) (v := .pointer (some ⟨b, off + m * 7, none⟩)) ?hi7 (by kernel_rfl) (by kernel_rfl) (by kernel_rfl) ?hq7 ?hy7 hHeld ?rest7
    case hi7 => simp only [List.getElem?_toArray, List.getElem?_cons_succ, List.getElem?_cons_zero, Option.some.injEq]; rfl
    case hq7 => exact fun _ _ _ h => h
    case hy7 =>
      refine Or.inl ⟨by kernel_rfl, fun V hV => ?_⟩
      clear hV
      go_simp
    try simp only [Go.Act.put, List.setIfInBounds_toArray, List.set_cons_zero, List.set_cons_succ]
    refine wpAnyH_take (i := 8) (oi := ?oi8) (v := .agg #[.int .i64 qt, .int .i64 qx, .int .i64 qy, .int .i64 qz, .int .i64 qp, .int .i64 qq, .int .i64 qs]) ?hi8 (by kernel_rfl) (by kernel_rfl) (by kernel_rfl) ?hq8 ?hy8 hHeld ?rest8
    case hi8 => simp only [List.getElem?_toArray, List.getElem?_cons_succ, List.getElem?_cons_zero, Option.some.injEq]; rfl
    case hq8 => exact fun _ _ _ h => h
    case hy8 =>
      refine Or.inl ⟨by kernel_rfl, fun V hV => ?_⟩
      have H7 := (HC.out V hV).2; obtain ⟨q0, q1, q2, q3, q4, q5, q6⟩ := H7; clear hV
      go_simp
    try simp only [Go.Act.put, List.setIfInBounds_toArray, List.set_cons_zero, List.set_cons_succ]
    refine wpAnyH_take (i := 9) (oi := ?oi9) (v := .int .i64 s) ?hi9 (by kernel_rfl) (by kernel_rfl) (by kernel_rfl) ?hq9 ?hy9 hHeld ?rest9
    case hi9 => simp only [List.getElem?_toArray, List.getElem?_cons_succ, List.getElem?_cons_zero, Option.some.injEq]; rfl
    case hq9 => exact fun _ _ _ h => h
    case hy9 =>
      refine Or.inl ⟨by kernel_rfl, fun V hV => ?_⟩
      clear hV
      go_simp
    try simp only [Go.Act.put, List.setIfInBounds_toArray, List.set_cons_zero, List.set_cons_succ]
    refine wpAnyH_ready (rs := [10]) (by kernel_rfl) (by simp) ?_
    refine AllReadyH.cons rfl (fun K hK => ?_) AllReadyH.nil
    go_simp
    refine (KO.out _).mono ?_
    rintro e w5 ⟨rfl, hg5⟩
    refine hK.out _ _ ?_ (fun hHeld1 => ?_)
    · obtain ⟨h1, c, h2, h3⟩ := hHeld
      exact ⟨grown_trans h1 hg5, c, h2, (hg5.block _ (lt_of_block h3) (by simp)).trans h3⟩
    clear hK K
    try simp only [Go.Act.put, List.setIfInBounds_toArray, List.set_cons_zero, List.set_cons_succ]
    refine wpAnyH_ready (rs := [11]) (by kernel_rfl) (by simp) ?_
    refine AllReadyH.cons rfl (fun K hK => ?_) AllReadyH.nil
    obtain ⟨g5, c, hc, hz⟩ := hHeld1
    have z0 := block_cell hz 0 _ (Array.getElem?_eq_getElem (show 0 < c.size from hc.symm ▸ (by decide : 0 < 7)))
    have y0 := block_free (k := 0) hz
    have z1 := block_cell hz 1 _ (Array.getElem?_eq_getElem (show 1 < c.size from hc.symm ▸ (by decide : 1 < 7)))
    have y1 := block_free (k := 1) hz
    have z2 := block_cell hz 2 _ (Array.getElem?_eq_getElem (show 2 < c.size from hc.symm ▸ (by decide : 2 < 7)))
    have y2 := block_free (k := 2) hz
    have z3 := block_cell hz 3 _ (Array.getElem?_eq_getElem (show 3 < c.size from hc.symm ▸ (by decide : 3 < 7)))
    have y3 := block_free (k := 3) hz
    have z4 := block_cell hz 4 _ (Array.getElem?_eq_getElem (show 4 < c.size from hc.symm ▸ (by decide : 4 < 7)))
    have y4 := block_free (k := 4) hz
    have z5 := block_cell hz 5 _ (Array.getElem?_eq_getElem (show 5 < c.size from hc.symm ▸ (by decide : 5 < 7)))
    have y5 := block_free (k := 5) hz
    have z6 := block_cell hz 6 _ (Array.getElem?_eq_getElem (show 6 < c.size from hc.symm ▸ (by decide : 6 < 7)))
    have y6 := block_free (k := 6) hz
    have G5 := Lib.hid g5; have HZ5 := Lib.hid hz; have HC7 := Lib.hid hc
    clear hHeld g5 hz hg5
    go_simp
    refine hK.out _ _ ⟨grown_far (grown_far (grown_far (grown_far (grown_far (grown_far (grown_far G5.out (Nat.le_refl _) _ _) (Nat.le_refl _) _ _) (Nat.le_refl _) _ _) (Nat.le_refl _) _ _) (Nat.le_refl _) _ _) (Nat.le_refl _) _ _) (Nat.le_refl _) _ _, _, ?_, block_set (block_set (block_set (block_set (block_set (block_set (block_set HZ5.out _) _) _) _) _) _) _⟩ (fun hHeld4 => ?_)
    · simpa using HC7.out
    refine wpAnyH_done (by kernel_rfl) ?_ _
    clear hK K
    have G6 := hHeld4.1
    clear hHeld4
    go_wp2_with fail
    refine bodyPost_ret (v := .agg #[.int .i64 x.t, .int .i64 x.x, .int .i64 x.y, .int .i64 x.z, .int .i64 x.p, .int .i64 x.q, .int .i64 x.s]) (by simp [results, Try.results57, go_sem, z0, z1, z2, z3, z4, z5, z6]) rfl ⟨rfl, G6⟩
end Go.Proofs.Ytgkhhfojioepgaa
namespace Go.Proofs.Ytgkhhfojioepgaa
open Go.RowKit
set_option linter.unusedSimpArgs false
set_option linter.unusedVariables false

theorem rnd_in {n d a : Int} (hd : 1 ≤ d) (h0 : 0 ≤ n) (h1 : n ≤ a * d) : 0 ≤ rndV 4 n d ∧ rndV 4 n d ≤ a := by
  have q0 : 0 ≤ n / d := Int.ediv_nonneg h0 (by omega)
  have q1 : n / d ≤ a := by
    have := Int.ediv_le_ediv (c := d) (by omega) h1
    rwa [Int.mul_ediv_cancel _ (by omega)] at this
  have e := Int.mul_ediv_add_emod n d
  have hm := Int.emod_nonneg n (show d ≠ 0 by omega)
  unfold rndV
  split
  · rename_i hu
    refine ⟨by omega, ?_⟩
    rcases Int.lt_or_le (n / d) a with q | q
    · omega
    · exfalso
      have hqa : n / d = a := by omega
      rw [hqa, Int.mul_comm] at e
      have hz : n % d = 0 := by omega
      unfold upB at hu
      rw [hz] at hu
      simp at hu
      omega
  · omega
theorem rnd_in_neg {n d a : Int} (hd : 1 ≤ d) (h0 : n ≤ 0) (h1 : -(a * d) ≤ n) : -a ≤ rndV 4 n d ∧ rndV 4 n d ≤ 0 := by
  have q1 : -a ≤ n / d := by
    rw [Int.le_ediv_iff_mul_le (by omega), Int.neg_mul]; exact h1
  have q0 : n / d ≤ 0 := by
    have := Int.ediv_le_ediv (c := d) (by omega) h0
    simpa using this
  have e := Int.mul_ediv_add_emod n d
  have hm := Int.emod_nonneg n (show d ≠ 0 by omega)
  unfold rndV
  split
  · rename_i hu
    refine ⟨by omega, ?_⟩
    rcases Int.lt_or_le (n / d) 0 with q | q
    · omega
    · exfalso
      have hqa : n / d = 0 := by omega
      rw [hqa, Int.mul_zero] at e
      have hz : n % d = 0 := by omega
      unfold upB at hu
      rw [hz] at hu
      simp at hu
      omega
  · omega
theorem btw_in {p q part whole : Int} (p0 : -100000000 ≤ p) (p1 : p ≤ 100000000) (q0 : -100000000 ≤ q) (q1 : q ≤ 100000000) (h0 : 0 ≤ part) (h1 : part ≤ whole) (hd : 1 ≤ whole) (hd1 : whole ≤ 1000000) : -100000000 ≤ btwV p q part whole ∧ btwV p q part whole ≤ 100000000 := by
  have hs := scale_near (a := q - p) (num := part) (den := whole) (by omega) (by omega) h0 h1 hd hd1
  have e : (scaleV (q - p) part whole 4).1 = rndV 4 ((q - p) * part) whole := by
    have h2 := hs.2.2
    unfold scaleV at h2 ⊢
    rw [if_neg (by omega), if_neg (by omega)] at h2 ⊢
    split at h2
    · simp at h2
    · rename_i hn; rw [if_neg hn]
  unfold btwV
  rw [e]
  rcases Int.lt_or_le (q - p) 0 with c | c
  · have a1 : (q - p) * part ≤ 0 := Int.mul_nonpos_of_nonpos_of_nonneg (by omega) h0
    have a2 : -((p - q) * whole) ≤ (q - p) * part := by
      have r1 : (q - p) * whole ≤ (q - p) * part := Int.mul_le_mul_of_nonpos_left (by omega) h1
      have r2 : -((p - q) * whole) = (q - p) * whole := by rw [← Int.neg_mul]; congr 1; omega
      rw [r2]; exact r1
    have := rnd_in_neg hd a1 a2
    omega
  · have a1 : 0 ≤ (q - p) * part := Int.mul_nonneg c h0
    have a2 : (q - p) * part ≤ (q - p) * whole := Int.mul_le_mul_of_nonneg_left h1 c
    have := rnd_in hd a1 a2
    omega
theorem on_plane {p q : Smp} {s : Int} (hp : SmpIn p) (hq : SmpIn q) (h0 : p.t ≤ s) (h1 : s ≤ q.t) (hpq : p.t < q.t) : inPlane (onV p q s) := by
  obtain ⟨⟨t0, t1⟩, hp1, _⟩ := hp
  obtain ⟨⟨t2, t3⟩, hq1, _⟩ := hq
  unfold inPlane at hp1 hq1
  have a := btw_in (p := p.x) (q := q.x) (part := s - p.t) (whole := q.t - p.t) (by omega) (by omega) (by omega) (by omega) (by omega) (by omega) (by omega) (by omega)
  have b := btw_in (p := p.y) (q := q.y) (part := s - p.t) (whole := q.t - p.t) (by omega) (by omega) (by omega) (by omega) (by omega) (by omega) (by omega) (by omega)
  unfold inPlane onV
  simp only
  omega
/-- The square of how far x is from where somebody would have been who went straight from p to q. -/
noncomputable def missV (p q x : Smp) : Int := sqP (onV p q x.t) x
theorem miss_bd {p q x : Smp} (hp : SmpIn p) (hq : SmpIn q) (hx : SmpIn x) (h0 : p.t ≤ x.t) (h1 : x.t ≤ q.t) (hpq : p.t < q.t) : 0 ≤ missV p q x ∧ missV p q x ≤ 80000000000000000 := by
  have := sqP_bd (on_plane hp hq h0 h1 hpq) hx.2.1
  unfold missV; omega
theorem times_lt {ss : List Smp} (h : SOk ss) {i j : Nat} (hij : i < j) (hj : j < ss.length) : (smpD ss i).t < (smpD ss j).t := by
  have a := h.up i (by omega)
  have b := times_le h (i := i + 1) (j := j) (by omega) hj
  omega
theorem sq_most {a : Int} (h0 : 0 ≤ a) (h1 : a ≤ 100000000) : 0 ≤ a * a ∧ a * a ≤ 10000000000000000 := by
  refine ⟨Int.mul_nonneg h0 h0, ?_⟩
  have := Int.mul_le_mul h1 h1 h0 (show (0 : Int) ≤ 100000000 by omega)
  omega
/-- All samples between two are near. -/
def NearP (ss : List Smp) (i j : Nat) (m : Int) : Prop := ∀ k, i < k → k < j → missV (smpD ss i) (smpD ss j) (smpD ss k) ≤ m
end Go.Proofs.Ytgkhhfojioepgaa
namespace Go.Proofs.Ytgkhhfojioepgaa
open Go.RowKit
set_option linter.unusedSimpArgs false
set_option linter.unusedVariables false

/-- Of the samples behind i, after m of those behind the next one were looked at: the first one that is near with the fewest steps. -/
def fwB (S : Nat → Nat) (nr : Nat → Bool) (i : Nat) : Nat → Nat
  | 0 => i + 1
  | m + 1 => if S (i + 2 + m) < S (fwB S nr i m) ∧ nr (i + 2 + m) = true then i + 2 + m else fwB S nr i m
/-- The steps and the next ones, from behind, after d rounds. -/
def fwV (n : Nat) (nr : Nat → Nat → Bool) : Nat → (Nat → Nat) × (Nat → Nat)
  | 0 => (fun _ => 0, fun _ => 0)
  | d + 1 => (fun k => if k = n - 2 - d then (fwV n nr d).1 (fwB (fwV n nr d).1 (nr (n - 2 - d)) (n - 2 - d) d) + 1 else (fwV n nr d).1 k, fun k => if k = n - 2 - d then fwB (fwV n nr d).1 (nr (n - 2 - d)) (n - 2 - d) d else (fwV n nr d).2 k)
theorem fwB_in (S : Nat → Nat) (nr : Nat → Bool) (i : Nat) : ∀ m, i < fwB S nr i m ∧ fwB S nr i m ≤ i + 1 + m
  | 0 => by unfold fwB; omega
  | m + 1 => by
    have := fwB_in S nr i m
    unfold fwB
    split <;> omega
theorem fw_le (n : Nat) (nr : Nat → Nat → Bool) : ∀ d k, (fwV n nr d).1 k ≤ d
  | 0, k => by simp [fwV]
  | d + 1, k => by
    show (if k = n - 2 - d then _ + 1 else _) ≤ d + 1
    split
    · have := fw_le n nr d (fwB (fwV n nr d).1 (nr (n - 2 - d)) (n - 2 - d) d); omega
    · have := fw_le n nr d k; omega
theorem fw_next (n : Nat) (nr : Nat → Nat → Bool) : ∀ d, d + 1 ≤ n → ∀ k, n - 1 - d ≤ k → k + 1 < n → k < (fwV n nr d).2 k ∧ (fwV n nr d).2 k < n
  | 0, _, k, h, h2 => by omega
  | d + 1, hd, k, h, h2 => by
    show _ < (if k = n - 2 - d then _ else _) ∧ (if k = n - 2 - d then _ else _) < n
    split
    · rename_i e
      have := fwB_in (fwV n nr d).1 (nr (n - 2 - d)) (n - 2 - d) d
      omega
    · exact fw_next n nr d (by omega) k (by omega) h2
/-- The next one of each sample; of the last one, the length. -/
def fwN (n : Nat) (nr : Nat → Nat → Bool) (k : Nat) : Nat := if k + 1 < n then (fwV n nr (n - 1)).2 k else n
theorem fwN_in (n : Nat) (nr : Nat → Nat → Bool) (k : Nat) (hk : k < n) : k < fwN n nr k ∧ fwN n nr k ≤ n := by
  unfold fwN
  split
  · rename_i h
    have := fw_next n nr (n - 1) (by omega) k (by omega) h
    omega
  · omega
/-- The row of steps, and the program's row of next ones, after d rounds. -/
def fwF (n : Nat) (nr : Nat → Nat → Bool) (d : Nat) (k : Nat) : Int := ((fwV n nr d).1 k : Nat)
def fwG (n : Nat) (nr : Nat → Nat → Bool) (d : Nat) (k : Nat) : Int := if k = n - 1 then -1 else ((fwV n nr d).2 k : Nat)
/-- The same inside round d, when m of the later ones were looked at. -/
def fwFm (n : Nat) (nr : Nat → Nat → Bool) (d m : Nat) : Nat → Int := updI (fwF n nr d) (n - 2 - d) (((fwV n nr d).1 (fwB (fwV n nr d).1 (nr (n - 2 - d)) (n - 2 - d) m) : Nat) + 1)
def fwGm (n : Nat) (nr : Nat → Nat → Bool) (d m : Nat) : Nat → Int := updI (fwG n nr d) (n - 2 - d) ((fwB (fwV n nr d).1 (nr (n - 2 - d)) (n - 2 - d) m : Nat))
theorem fwFm_end {n : Nat} {nr : Nat → Nat → Bool} {d : Nat} : fwFm n nr d d = fwF n nr (d + 1) := by
  funext k
  show updI _ _ _ k = (((if k = n - 2 - d then (fwV n nr d).1 (fwB (fwV n nr d).1 (nr (n - 2 - d)) (n - 2 - d) d) + 1 else (fwV n nr d).1 k : Nat)) : Int)
  unfold updI fwF; split <;> simp
theorem fwGm_end {n : Nat} {nr : Nat → Nat → Bool} {d : Nat} (h : d + 1 < n) : fwGm n nr d d = fwG n nr (d + 1) := by
  funext k
  show updI _ _ _ k = if k = n - 1 then -1 else (((if k = n - 2 - d then fwB (fwV n nr d).1 (nr (n - 2 - d)) (n - 2 - d) d else (fwV n nr d).2 k : Nat)) : Int)
  unfold updI fwG
  split
  · rw [if_neg (by omega)]
  · rfl
theorem fw_stay {n : Nat} {nr : Nat → Nat → Bool} {d m i : Nat} (hi : i = n - 2 - d) (h : ¬ ((fwV n nr d).1 (i + 2 + m) < (fwV n nr d).1 (fwB (fwV n nr d).1 (nr i) i m) ∧ nr i (i + 2 + m) = true)) : fwFm n nr d (m + 1) = fwFm n nr d m ∧ fwGm n nr d (m + 1) = fwGm n nr d m := by
  subst hi
  have e : fwB (fwV n nr d).1 (nr (n - 2 - d)) (n - 2 - d) (m + 1) = fwB (fwV n nr d).1 (nr (n - 2 - d)) (n - 2 - d) m := by rw [fwB, if_neg h]
  unfold fwFm fwGm
  rw [e]
  exact ⟨rfl, rfl⟩
theorem fw_go {n : Nat} {nr : Nat → Nat → Bool} {d m i j : Nat} (hi : i = n - 2 - d) (hj : j = i + 2 + m) (h : (fwV n nr d).1 j < (fwV n nr d).1 (fwB (fwV n nr d).1 (nr i) i m)) (h2 : nr i j = true) : fwFm n nr d (m + 1) = updI (fwFm n nr d m) i (((fwV n nr d).1 j : Nat) + 1) ∧ fwGm n nr d (m + 1) = updI (fwGm n nr d m) i (j : Nat) := by
  subst hi hj
  have e : fwB (fwV n nr d).1 (nr (n - 2 - d)) (n - 2 - d) (m + 1) = n - 2 - d + 2 + m := by rw [fwB, if_pos ⟨h, h2⟩]
  unfold fwFm fwGm
  rw [e, updI_twice, updI_twice]
  exact ⟨rfl, rfl⟩
theorem fwFm_at {n : Nat} {nr : Nat → Nat → Bool} {d m i : Nat} (hi : i = n - 2 - d) : fwFm n nr d m i = ((fwV n nr d).1 (fwB (fwV n nr d).1 (nr i) i m) : Nat) + 1 := by
  subst hi; unfold fwFm updI; rw [if_pos rfl]
theorem fwFm_far {n : Nat} {nr : Nat → Nat → Bool} {d m k : Nat} (h : k ≠ n - 2 - d) : fwFm n nr d m k = ((fwV n nr d).1 k : Nat) := by
  unfold fwFm updI; rw [if_neg h]; rfl
theorem fwG_enc {n : Nat} {nr : Nat → Nat → Bool} (k : Nat) (hk : k < n) : fwG n nr (n - 1) k = encM n (fwN n nr k) := by
  unfold fwG fwN encM
  by_cases h : k + 1 < n
  · have := fw_next n nr (n - 1) (by omega) k (by omega) h
    rw [if_neg (by omega), if_pos h, if_neg (by omega)]
  · rw [if_pos (by omega), if_neg h, if_pos rfl]
/-- Are all samples between two near? -/
noncomputable def nrS (ss : List Smp) (most : Int) (i j : Nat) : Bool := @decide (NearP ss i j (most * most)) (Classical.propDecidable _)
theorem nrS_iff {ss : List Smp} {most : Int} {i j : Nat} : nrS ss most i j = true ↔ NearP ss i j (most * most) := by unfold nrS; exact @decide_eq_true_iff _ (Classical.propDecidable _)
end Go.Proofs.Ytgkhhfojioepgaa
