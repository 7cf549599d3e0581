/- The contracts of one step of states, of both sides. -/
import Derived.Test.YteaifonpkdjkcaaFPure
namespace Go.Proofs.Yteaifonpkdjkcaa
open Go.RowKit

theorem fwithin_yes (n lo hi : Int) (h : lo ≤ n ∧ n ≤ hi) (w : World) : Calls Try.prog 129 #[.int .i64 n, .int .i64 lo, .int .i64 hi] w fun e w' => e = .returned (.bool true) ∧ w = w' := by
  obtain ⟨h0, h1⟩ := h
  go_enter Try.func129, Try.ntmps129
  go_wp2
  go_ret
  exact ⟨ret_bool (by first | rfl | (simp; omega)), rfl⟩
theorem fwithin_no (n lo hi : Int) (h : ¬ (lo ≤ n ∧ n ≤ hi)) (w : World) : Calls Try.prog 129 #[.int .i64 n, .int .i64 lo, .int .i64 hi] w fun e w' => e = .returned (.bool false) ∧ w = w' := by
  by_cases h0 : lo ≤ n
  · have h1 : ¬ n ≤ hi := fun h1 => h ⟨h0, h1⟩
    clear h
    go_enter Try.func129, Try.ntmps129
    go_wp2
    go_ret
    exact ⟨ret_bool (by first | rfl | (simp; omega)), rfl⟩
  · clear h
    go_enter Try.func129, Try.ntmps129
    go_wp2
    go_ret
    exact ⟨ret_bool (by first | rfl | (simp; omega)), rfl⟩

theorem isState_yes (n : Int) (h : Hid (0 ≤ n ∧ n ≤ 10000000)) (w : World) : Calls Try.prog 130 #[.int .i64 n] w fun e w' => e = .returned (.bool true) ∧ w = w' := by
  go_enter Try.func130, Try.ntmps130
  go_wp2_with (go_at_call 129; refine (fwithin_yes _ _ _ h.out _).mono ?_; rintro e w1 ⟨rfl, rfl⟩)
  go_ret
  exact ⟨rfl, rfl⟩
theorem isState_no (n : Int) (h : Hid (¬ (0 ≤ n ∧ n ≤ 10000000))) (w : World) : Calls Try.prog 130 #[.int .i64 n] w fun e w' => e = .returned (.bool false) ∧ w = w' := by
  go_enter Try.func130, Try.ntmps130
  go_wp2_with (go_at_call 129; refine (fwithin_no _ _ _ h.out _).mono ?_; rintro e w1 ⟨rfl, rfl⟩)
  go_ret
  exact ⟨rfl, rfl⟩
theorem isLoad_yes (n : Int) (h : Hid (0 ≤ n ∧ n ≤ 10000)) (w : World) : Calls Try.prog 133 #[.int .i64 n] w fun e w' => e = .returned (.bool true) ∧ w = w' := by
  go_enter Try.func133, Try.ntmps133
  go_wp2_with (go_at_call 129; refine (fwithin_yes _ _ _ h.out _).mono ?_; rintro e w1 ⟨rfl, rfl⟩)
  go_ret
  exact ⟨rfl, rfl⟩
theorem isLoad_no (n : Int) (h : Hid (¬ (0 ≤ n ∧ n ≤ 10000))) (w : World) : Calls Try.prog 133 #[.int .i64 n] w fun e w' => e = .returned (.bool false) ∧ w = w' := by
  go_enter Try.func133, Try.ntmps133
  go_wp2_with (go_at_call 129; refine (fwithin_no _ _ _ h.out _).mono ?_; rintro e w1 ⟨rfl, rfl⟩)
  go_ret
  exact ⟨rfl, rfl⟩
theorem isConstant_yes (n : Int) (h : Hid (1 ≤ n ∧ n ≤ 1000)) (w : World) : Calls Try.prog 141 #[.int .i64 n] w fun e w' => e = .returned (.bool true) ∧ w = w' := by
  go_enter Try.func141, Try.ntmps141
  go_wp2_with (go_at_call 129; refine (fwithin_yes _ _ _ h.out _).mono ?_; rintro e w1 ⟨rfl, rfl⟩)
  go_ret
  exact ⟨rfl, rfl⟩
theorem isConstant_no (n : Int) (h : Hid (¬ (1 ≤ n ∧ n ≤ 1000))) (w : World) : Calls Try.prog 141 #[.int .i64 n] w fun e w' => e = .returned (.bool false) ∧ w = w' := by
  go_enter Try.func141, Try.ntmps141
  go_wp2_with (go_at_call 129; refine (fwithin_no _ _ _ h.out _).mono ?_; rintro e w1 ⟨rfl, rfl⟩)
  go_ret
  exact ⟨rfl, rfl⟩

theorem fmul_bd {s c : Int} (hs : 0 ≤ s ∧ s ≤ 10000000) (hc : 1 ≤ c ∧ c ≤ 1000) : 0 ≤ s * (c - 1) ∧ s * (c - 1) ≤ 9990000000 := by
  have h0 : 0 ≤ s * (c - 1) := Int.mul_nonneg hs.1 (by omega)
  have h1 : s * (c - 1) ≤ 10000000 * (c - 1) := Int.mul_le_mul_of_nonneg_right hs.2 (by omega)
  omega

set_option maxHeartbeats 800000 in
theorem step_is (s x c : Int) (hs : 0 ≤ s ∧ s ≤ 10000000) (hx : 0 ≤ x ∧ x ≤ 10000) (hc : 1 ≤ c ∧ c ≤ 1000) (w : World) {v : Int} (hv : Hid (stepF s x c = v)) :
    Calls Try.prog 137 #[.int .i64 s, .int .i64 x, .int .i64 c] w fun e w' => e = .returned (.int .i64 v) ∧ w = w' := by
  have hb := stepF_bd hs hx hc.1
  rw [hv.out] at hb
  have b1 := fmul_bd hs hc
  have hvv := hv.out
  unfold stepF at hvv
  obtain ⟨X, hX⟩ : ∃ X, s * (c - 1) = X := ⟨_, rfl⟩
  rw [hX] at b1 hvv
  have rx : IntKind.i64.wrap (s * (c - 1)) = X := by rw [hX]; exact IntWalk.i64_in _ (by omega)
  have hne0 : ¬ c = 0 := by omega
  have hne1 : (c == 0) = false := by rw [beq_eq_false_iff_ne]; omega
  obtain ⟨x0, x1⟩ := hx
  obtain ⟨c0, c1⟩ := hc
  obtain ⟨b2, b3⟩ := b1
  have HVV := Lib.hid hvv
  clear hv hvv hX hb hs
  go_enter Try.func137, Try.ntmps137
  go_wp2
  go_ret
  exact ⟨ret_int HVV.out, rfl⟩

set_option maxHeartbeats 800000 in
theorem Step_any (s x c : Int) (w : World) {v E : Int} (hE : Hid (fstepE s x c = E)) (hv : Hid (fstepV s x c = v)) :
    Calls Try.prog 82 #[.int .i64 s, .int .i64 x, .int .i64 c] w fun e w' => e = .returned (.tuple #[.int .i64 v, .int .i64 E]) ∧ w = w' := by
  have q := hv.out
  unfold fstepV at q
  rw [hE.out] at q
  have p := hE.out
  unfold fstepE at p
  clear hE hv
  by_cases h1 : 0 ≤ s ∧ s ≤ 10000000
  · by_cases h2 : 0 ≤ x ∧ x ≤ 10000
    · by_cases h3 : 1 ≤ c ∧ c ≤ 1000
      · rw [if_pos ⟨h1, h2, h3⟩] at p
        subst p
        rw [if_pos rfl] at q
        have H1 := Lib.hid h1; have H2 := Lib.hid h2; have H3 := Lib.hid h3; have Q := Lib.hid q
        clear h1 h2 h3 q
        go_enter Try.func82, Try.ntmps82
        go_wp2_with (first
          | (go_at_call 130; refine (isState_yes _ H1 _).mono ?_; rintro e w1 ⟨rfl, rfl⟩)
          | (go_at_call 133; refine (isLoad_yes _ H2 _).mono ?_; rintro e w1 ⟨rfl, rfl⟩)
          | (go_at_call 141; refine (isConstant_yes _ H3 _).mono ?_; rintro e w1 ⟨rfl, rfl⟩)
          | (go_at_call 137; refine (step_is _ _ _ H1.out H2.out H3.out _ Q).mono ?_; rintro e w1 ⟨rfl, rfl⟩))
        go_ret2
        exact ⟨rfl, rfl⟩
      · rw [if_neg (fun h => h3 h.2.2)] at p
        subst p
        rw [if_neg (by decide)] at q
        subst q
        have H1 := Lib.hid h1; have H2 := Lib.hid h2; have H3 := Lib.hid h3
        clear h1 h2 h3
        go_enter Try.func82, Try.ntmps82
        go_wp2_with (first
          | (go_at_call 130; refine (isState_yes _ H1 _).mono ?_; rintro e w1 ⟨rfl, rfl⟩)
          | (go_at_call 133; refine (isLoad_yes _ H2 _).mono ?_; rintro e w1 ⟨rfl, rfl⟩)
          | (go_at_call 141; refine (isConstant_no _ H3 _).mono ?_; rintro e w1 ⟨rfl, rfl⟩))
        go_ret2
        exact ⟨rfl, rfl⟩
    · rw [if_neg (fun h => h2 h.2.1)] at p
      subst p
      rw [if_neg (by decide)] at q
      subst q
      have H1 := Lib.hid h1; have H2 := Lib.hid h2
      clear h1 h2
      go_enter Try.func82, Try.ntmps82
      go_wp2_with (first
        | (go_at_call 130; refine (isState_yes _ H1 _).mono ?_; rintro e w1 ⟨rfl, rfl⟩)
        | (go_at_call 133; refine (isLoad_no _ H2 _).mono ?_; rintro e w1 ⟨rfl, rfl⟩))
      go_ret2
      exact ⟨rfl, rfl⟩
  · rw [if_neg (fun h => h1 h.1)] at p
    subst p
    rw [if_neg (by decide)] at q
    subst q
    have H1 := Lib.hid h1
    clear h1
    go_enter Try.func82, Try.ntmps82
    go_wp2_with (first
      | (go_at_call 130; refine (isState_no _ H1 _).mono ?_; rintro e w1 ⟨rfl, rfl⟩))
    go_ret2
    exact ⟨rfl, rfl⟩

end Go.Proofs.Yteaifonpkdjkcaa
