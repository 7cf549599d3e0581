/- The contract of quant.Scale. -/
import Derived.Test.YtbacoopopokkfaaDoorQQuot
import Derived.Laws.EntriesVeiled
namespace Go.Proofs.YtbacoopopokkfaaDoor
open Go.RowKit
set_option linter.unusedSimpArgs false
set_option linter.unusedVariables false

theorem roundings_any (w : World) :
    Calls Tryd.prog 39 #[] w fun e w' => e = .returned (.agg #[.nilFunc, .func (.func 61) #[] #[], .func (.func 62) #[] #[], .func (.func 63) #[] #[], .func (.func 64) #[] #[], .func (.func 65) #[] #[]]) ∧ w.grownBy w' none := by
  go_enter Tryd.func39, Tryd.ntmps39
  go_wp2
  exact bodyPost_ret (v := .agg #[.nilFunc, .func (.func 61) #[] #[], .func (.func 62) #[] #[], .func (.func 63) #[] #[], .func (.func 64) #[] #[], .func (.func 65) #[] #[]]) (by simp [results, Tryd.results39, go_sem]) rfl ⟨rfl, World.grownBy_alloc _ _ _⟩

theorem round1_any (q : Int) (r d : Nat) (w : World) :
    Calls Tryd.prog 61 #[.int .i64 q, .int .u64 r, .int .u64 d] w fun e w' => e = .returned (.bool (upB 1 q r d)) ∧ w = w' := by
  go_enter Tryd.func61, Tryd.ntmps61
  go_wp2
  go_ret
  exact ⟨rfl, rfl⟩
theorem round2_any (q : Int) (r d : Nat) (w : World) :
    Calls Tryd.prog 62 #[.int .i64 q, .int .u64 r, .int .u64 d] w fun e w' => e = .returned (.bool (upB 2 q r d)) ∧ w = w' := by
  go_enter Tryd.func62, Tryd.ntmps62
  go_wp2
  go_ret
  exact ⟨ret_bool (by simp [upB]), rfl⟩
theorem round3_any (q : Int) (r d : Nat) (w : World) :
    Calls Tryd.prog 63 #[.int .i64 q, .int .u64 r, .int .u64 d] w fun e w' => e = .returned (.bool (upB 3 q r d)) ∧ w = w' := by
  go_enter Tryd.func63, Tryd.ntmps63
  go_wp2
  all_goals go_ret
  all_goals exact ⟨ret_bool (by simp [upB, *]), rfl⟩
theorem round4_any (q : Int) (r d : Nat) (hr : (r : Int) ≤ (d : Int)) (hd : (d : Int) ≤ 9223372036854775807) (w : World) :
    Calls Tryd.prog 64 #[.int .i64 q, .int .u64 r, .int .u64 d] w fun e w' => e = .returned (.bool (upB 4 q r d)) ∧ w = w' := by
  go_enter Tryd.func64, Tryd.ntmps64
  go_wp2
  go_ret
  exact ⟨ret_bool (by simp [upB]), rfl⟩
theorem tmod2 (q : Int) : (q.tmod 2 != 0) = decide (q % 2 = 1) := by
  rw [Bool.eq_iff_iff, bne_iff_ne, Ne, ← Int.dvd_iff_tmod_eq_zero, decide_eq_true_iff]; omega
set_option maxHeartbeats 400000 in
theorem round5_any (q : Int) (r d : Nat) (hr : (r : Int) ≤ (d : Int)) (hd : (d : Int) ≤ 9223372036854775807) (w : World) :
    Calls Tryd.prog 65 #[.int .i64 q, .int .u64 r, .int .u64 d] w fun e w' => e = .returned (.bool (upB 5 q r d)) ∧ w = w' := by
  by_cases h1 : (d : Int) - (r : Int) < (r : Int)
  · go_enter Tryd.func65, Tryd.ntmps65
    go_wp2
    go_ret
    exact ⟨ret_bool (by simp [upB, h1]), rfl⟩
  · by_cases h2 : (r : Int) = (d : Int) - (r : Int)
    · have h3 : ((r : Int) == (d : Int) - (r : Int)) = true := by simpa using h2
      have H2 := Lib.hid h2; clear h2
      go_enter Tryd.func65, Tryd.ntmps65
      go_wp2
      go_ret
      exact ⟨ret_bool (by rw [tmod2]; simp [upB, ← H2.out]), rfl⟩
    · have h3 : ((r : Int) == (d : Int) - (r : Int)) = false := by simpa using h2
      have H2 := Lib.hid h2; clear h2
      go_enter Tryd.func65, Tryd.ntmps65
      go_wp2
      go_ret
      exact ⟨ret_bool (by have := H2.out; simp [upB, h1, this]), rfl⟩

theorem round1_is (q : Int) (r d : Nat) (w : World) {b : Bool} (h : Hid (upB 1 q r d = b)) :
    Calls Tryd.prog 61 #[.int .i64 q, .int .u64 r, .int .u64 d] w fun e w' => e = .returned (.bool b) ∧ w = w' := by
  have := round1_any q r d w
  rw [h.out] at this; exact this
theorem round2_is (q : Int) (r d : Nat) (w : World) {b : Bool} (h : Hid (upB 2 q r d = b)) :
    Calls Tryd.prog 62 #[.int .i64 q, .int .u64 r, .int .u64 d] w fun e w' => e = .returned (.bool b) ∧ w = w' := by
  have := round2_any q r d w
  rw [h.out] at this; exact this
theorem round3_is (q : Int) (r d : Nat) (w : World) {b : Bool} (h : Hid (upB 3 q r d = b)) :
    Calls Tryd.prog 63 #[.int .i64 q, .int .u64 r, .int .u64 d] w fun e w' => e = .returned (.bool b) ∧ w = w' := by
  have := round3_any q r d w
  rw [h.out] at this; exact this
theorem round4_is (q : Int) (r d : Nat) (hr : (r : Int) ≤ (d : Int)) (hd : (d : Int) ≤ 9223372036854775807) (w : World) {b : Bool} (h : Hid (upB 4 q r d = b)) :
    Calls Tryd.prog 64 #[.int .i64 q, .int .u64 r, .int .u64 d] w fun e w' => e = .returned (.bool b) ∧ w = w' := by
  have := round4_any q r d hr hd w
  rw [h.out] at this; exact this
theorem round5_is (q : Int) (r d : Nat) (hr : (r : Int) ≤ (d : Int)) (hd : (d : Int) ≤ 9223372036854775807) (w : World) {b : Bool} (h : Hid (upB 5 q r d = b)) :
    Calls Tryd.prog 65 #[.int .i64 q, .int .u64 r, .int .u64 d] w fun e w' => e = .returned (.bool b) ∧ w = w' := by
  have := round5_any q r d hr hd w
  rw [h.out] at this; exact this
theorem pick1 (w : World) : (Instr.index 67 (.agg #[.nilFunc, .func (.func 61) #[] #[], .func (.func 62) #[] #[], .func (.func 63) #[] #[], .func (.func 64) #[] #[], .func (.func 65) #[] #[]]) (.int .i64 1)).run Tryd.prog w = .ok (.func (.func 61) #[] #[]) w := by kernel_rfl
theorem pick2 (w : World) : (Instr.index 67 (.agg #[.nilFunc, .func (.func 61) #[] #[], .func (.func 62) #[] #[], .func (.func 63) #[] #[], .func (.func 64) #[] #[], .func (.func 65) #[] #[]]) (.int .i64 2)).run Tryd.prog w = .ok (.func (.func 62) #[] #[]) w := by kernel_rfl
theorem pick3 (w : World) : (Instr.index 67 (.agg #[.nilFunc, .func (.func 61) #[] #[], .func (.func 62) #[] #[], .func (.func 63) #[] #[], .func (.func 64) #[] #[], .func (.func 65) #[] #[]]) (.int .i64 3)).run Tryd.prog w = .ok (.func (.func 63) #[] #[]) w := by kernel_rfl
theorem pick4 (w : World) : (Instr.index 67 (.agg #[.nilFunc, .func (.func 61) #[] #[], .func (.func 62) #[] #[], .func (.func 63) #[] #[], .func (.func 64) #[] #[], .func (.func 65) #[] #[]]) (.int .i64 4)).run Tryd.prog w = .ok (.func (.func 64) #[] #[]) w := by kernel_rfl
theorem pick5 (w : World) : (Instr.index 67 (.agg #[.nilFunc, .func (.func 61) #[] #[], .func (.func 62) #[] #[], .func (.func 63) #[] #[], .func (.func 64) #[] #[], .func (.func 65) #[] #[]]) (.int .i64 5)).run Tryd.prog w = .ok (.func (.func 65) #[] #[]) w := by kernel_rfl

theorem big_is (a : Int) (num den : Nat) : TooBig a.natAbs num den ↔ big < ((a.natAbs : Int) * (num : Int)) / (den : Int) := by
  unfold TooBig big
  rw [← Int.natCast_mul, ← Int.natCast_ediv]; omega

theorem rnd_bd (a : Int) (num den : Nat) (hd : 1 ≤ den) (hb : ¬ TooBig a.natAbs num den) : -4611686018427387905 ≤ a * num / den ∧ a * num / den ≤ 4611686018427387904 := by
  rw [big_is] at hb
  unfold big at hb
  rcases (show a < 0 ∨ 0 ≤ a by omega) with ha | ha
  · have en : (a.natAbs : Int) = -a := by omega
    have e : a * num = -((a.natAbs : Int) * num) := by rw [en, Int.neg_mul, Int.neg_neg]
    have hN : 0 ≤ (a.natAbs : Int) * num := Int.mul_nonneg (by omega) (by omega)
    rw [e]
    generalize (a.natAbs : Int) * num = N at *
    have hq : 0 ≤ N / den := Int.ediv_nonneg hN (by omega)
    by_cases hz : N % den = 0
    · rw [(neg_div_of N den (by omega) hz).1]; omega
    · rw [(neg_div_of' N den (by omega) hz).1]; omega
  · have e : (a.natAbs : Int) = a := by omega
    have hN : 0 ≤ a * num := Int.mul_nonneg (by omega) (by omega)
    rw [e] at hb
    have hq : 0 ≤ a * num / den := Int.ediv_nonneg hN (by omega)
    omega

set_option maxHeartbeats 1600000 in
theorem scale_any (a num den how : Int) (ha0 : -9223372036854775808 ≤ a) (ha1 : a ≤ 9223372036854775807) (hn0 : -9223372036854775808 ≤ num) (hn1 : num ≤ 9223372036854775807) (hd0 : -9223372036854775808 ≤ den) (hd1 : den ≤ 9223372036854775807) (w : World) :
    Calls Tryd.prog 18 #[.int .i64 a, .int .i64 num, .int .i64 den, .int .i64 how] w fun e w' => e = .returned (.tuple #[.int .i64 (scaleV a num den how).1, .int .i64 (scaleV a num den how).2]) ∧ w.grownBy w' none := by
  by_cases hk : how < 1
  · have hv : scaleV a num den how = (0, 7) := by unfold scaleV; rw [if_pos (.inl hk)]
    have HV := Lib.hid hv; clear hv
    go_enter Tryd.func18, Tryd.ntmps18
    go_wp2
    go_ret2
    exact ⟨ret_ii (by rw [HV.out]) (by rw [HV.out]), grown_refl _ _⟩
  by_cases hk5 : 5 < how
  · have hv : scaleV a num den how = (0, 7) := by unfold scaleV; rw [if_pos (.inr hk5)]
    have HV := Lib.hid hv; clear hv
    go_enter Tryd.func18, Tryd.ntmps18
    go_wp2
    go_ret2
    exact ⟨ret_ii (by rw [HV.out]) (by rw [HV.out]), grown_refl _ _⟩
  by_cases hdn : den ≤ 0
  · have hv : scaleV a num den how = (0, 1) := by unfold scaleV; rw [if_neg (by omega), if_pos (.inl (by omega))]
    have HV := Lib.hid hv; clear hv
    go_enter Tryd.func18, Tryd.ntmps18
    go_wp2
    go_ret2
    exact ⟨ret_ii (by rw [HV.out]) (by rw [HV.out]), grown_refl _ _⟩
  by_cases hnn : num < 0
  · have hv : scaleV a num den how = (0, 1) := by unfold scaleV; rw [if_neg (by omega), if_pos (.inr (by omega))]
    have HV := Lib.hid hv; clear hv
    go_enter Tryd.func18, Tryd.ntmps18
    go_wp2
    go_ret2
    exact ⟨ret_ii (by rw [HV.out]) (by rw [HV.out]), grown_refl _ _⟩
  obtain ⟨n, rfl⟩ : ∃ n : Nat, (n : Int) = num := ⟨num.toNat, by omega⟩
  obtain ⟨d, rfl⟩ : ∃ n : Nat, (n : Int) = den := ⟨den.toNat, by omega⟩
  by_cases hbig : TooBig a.natAbs n d
  · have hv : scaleV a n d how = (0, 9) := scale_no a n d how (by omega) (by omega) (by omega) (by omega) ((big_is a n d).1 hbig)
    have HV := Lib.hid hv; clear hv
    have HB := Lib.hid hbig; clear hbig
    go_enter Tryd.func18, Tryd.ntmps18
    go_wp2_with (go_at_call 38; refine (quot_no a n d ha0 ha1 (by omega) (by omega) (by omega) HB.out _).mono ?_; rintro e w1 ⟨rfl, hg⟩)
    go_ret2
    exact ⟨ret_ii (by rw [HV.out]) (by rw [HV.out]), by assumption⟩
  have hqb := rnd_bd a n d (by omega) hbig
  obtain ⟨q, hq⟩ : ∃ q, a * n / d = q := ⟨_, rfl⟩
  obtain ⟨r, hr⟩ : ∃ r : Nat, a * n % d = (r : Int) := ⟨(a * n % d).toNat, by have := Int.emod_nonneg (a * n) (show (d : Int) ≠ 0 by omega); omega⟩
  have hrd : (r : Int) < (d : Int) := by rw [← hr]; exact Int.emod_lt_of_pos _ (by omega)
  have hquot := quot_yes a n d ha0 ha1 (by omega) (by omega) (by omega) hbig
  rw [hq] at hqb
  rw [hq, hr] at hquot
  have HQ := Lib.hid hquot; clear hquot hbig
  have i1 := pick1
  have i2 := pick2
  have i3 := pick3
  have i4 := pick4
  have i5 := pick5
  have h15 : how = 1 ∨ how = 2 ∨ how = 3 ∨ how = 4 ∨ how = 5 := by omega
  rcases hu : upB how q r d with _ | _
  · have hv : scaleV a n d how = if q < -big ∨ big < q then (0, 9) else (q, 0) := by
      unfold scaleV rndV; rw [if_neg (by omega), if_neg (by omega), hq, hr, hu]; simp
    have HU := Lib.hid hu; clear hu hq hr
    by_cases hc : q < -4611686018427387904
    · rw [if_pos (by unfold big; omega)] at hv
      have HV := Lib.hid hv; clear hv
      rcases h15 with rfl | rfl | rfl | rfl | rfl
      all_goals
        go_enter Tryd.func18, Tryd.ntmps18
        go_wp2_with (first | (go_at_call 38; refine (HQ.out _).mono ?_; rintro e w1 ⟨rfl, hg1⟩) | (go_at_call 39; refine (roundings_any _).mono ?_; rintro e w2 ⟨rfl, hg2⟩) | (go_at_call 61; refine (round1_is q r d _ HU).mono ?_; rintro e w3 ⟨rfl, rfl⟩) | (go_at_call 62; refine (round2_is q r d _ HU).mono ?_; rintro e w3 ⟨rfl, rfl⟩) | (go_at_call 63; refine (round3_is q r d _ HU).mono ?_; rintro e w3 ⟨rfl, rfl⟩) | (go_at_call 64; refine (round4_is q r d (by omega) (by omega) _ HU).mono ?_; rintro e w3 ⟨rfl, rfl⟩) | (go_at_call 65; refine (round5_is q r d (by omega) (by omega) _ HU).mono ?_; rintro e w3 ⟨rfl, rfl⟩))
        all_goals
          go_ret2
          exact ⟨ret_ii (by rw [HV.out]) (by rw [HV.out]), grown_trans (by assumption) (by assumption)⟩
    · rw [if_neg (by unfold big; omega)] at hv
      have HV := Lib.hid hv; clear hv
      rcases h15 with rfl | rfl | rfl | rfl | rfl
      all_goals
        go_enter Tryd.func18, Tryd.ntmps18
        go_wp2_with (first | (go_at_call 38; refine (HQ.out _).mono ?_; rintro e w1 ⟨rfl, hg1⟩) | (go_at_call 39; refine (roundings_any _).mono ?_; rintro e w2 ⟨rfl, hg2⟩) | (go_at_call 61; refine (round1_is q r d _ HU).mono ?_; rintro e w3 ⟨rfl, rfl⟩) | (go_at_call 62; refine (round2_is q r d _ HU).mono ?_; rintro e w3 ⟨rfl, rfl⟩) | (go_at_call 63; refine (round3_is q r d _ HU).mono ?_; rintro e w3 ⟨rfl, rfl⟩) | (go_at_call 64; refine (round4_is q r d (by omega) (by omega) _ HU).mono ?_; rintro e w3 ⟨rfl, rfl⟩) | (go_at_call 65; refine (round5_is q r d (by omega) (by omega) _ HU).mono ?_; rintro e w3 ⟨rfl, rfl⟩))
        all_goals
          go_ret2
          exact ⟨ret_ii (by rw [HV.out]) (by rw [HV.out]), grown_trans (by assumption) (by assumption)⟩
  · have hv : scaleV a n d how = if q + 1 < -big ∨ big < q + 1 then (0, 9) else (q + 1, 0) := by
      unfold scaleV rndV; rw [if_neg (by omega), if_neg (by omega), hq, hr, hu]; simp
    have HU := Lib.hid hu; clear hu hq hr
    by_cases hc : 4611686018427387904 < q + 1
    · rw [if_pos (by unfold big; omega)] at hv
      have HV := Lib.hid hv; clear hv
      rcases h15 with rfl | rfl | rfl | rfl | rfl
      all_goals
        go_enter Tryd.func18, Tryd.ntmps18
        go_wp2_with (first | (go_at_call 38; refine (HQ.out _).mono ?_; rintro e w1 ⟨rfl, hg1⟩) | (go_at_call 39; refine (roundings_any _).mono ?_; rintro e w2 ⟨rfl, hg2⟩) | (go_at_call 61; refine (round1_is q r d _ HU).mono ?_; rintro e w3 ⟨rfl, rfl⟩) | (go_at_call 62; refine (round2_is q r d _ HU).mono ?_; rintro e w3 ⟨rfl, rfl⟩) | (go_at_call 63; refine (round3_is q r d _ HU).mono ?_; rintro e w3 ⟨rfl, rfl⟩) | (go_at_call 64; refine (round4_is q r d (by omega) (by omega) _ HU).mono ?_; rintro e w3 ⟨rfl, rfl⟩) | (go_at_call 65; refine (round5_is q r d (by omega) (by omega) _ HU).mono ?_; rintro e w3 ⟨rfl, rfl⟩))
        all_goals
          go_ret2
          exact ⟨ret_ii (by rw [HV.out]) (by rw [HV.out]), grown_trans (by assumption) (by assumption)⟩
    · rw [if_neg (by unfold big; omega)] at hv
      have HV := Lib.hid hv; clear hv
      rcases h15 with rfl | rfl | rfl | rfl | rfl
      all_goals
        go_enter Tryd.func18, Tryd.ntmps18
        go_wp2_with (first | (go_at_call 38; refine (HQ.out _).mono ?_; rintro e w1 ⟨rfl, hg1⟩) | (go_at_call 39; refine (roundings_any _).mono ?_; rintro e w2 ⟨rfl, hg2⟩) | (go_at_call 61; refine (round1_is q r d _ HU).mono ?_; rintro e w3 ⟨rfl, rfl⟩) | (go_at_call 62; refine (round2_is q r d _ HU).mono ?_; rintro e w3 ⟨rfl, rfl⟩) | (go_at_call 63; refine (round3_is q r d _ HU).mono ?_; rintro e w3 ⟨rfl, rfl⟩) | (go_at_call 64; refine (round4_is q r d (by omega) (by omega) _ HU).mono ?_; rintro e w3 ⟨rfl, rfl⟩) | (go_at_call 65; refine (round5_is q r d (by omega) (by omega) _ HU).mono ?_; rintro e w3 ⟨rfl, rfl⟩))
        all_goals
          go_ret2
          exact ⟨ret_ii (by rw [HV.out]) (by rw [HV.out]), grown_trans (by assumption) (by assumption)⟩
end Go.Proofs.YtbacoopopokkfaaDoor
