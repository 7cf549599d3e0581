/- The contracts of one step of states in the reference. -/
import Derived.Test.YteaifonpkdjkcaaFStep
namespace Go.Proofs.Yteaifonpkdjkcaa
open Go.RowKit

theorem routside_no (n lo hi : Int) (h : lo ≤ n ∧ n ≤ hi) (w : World) : Calls Try.prog 131 #[.int .i64 n, .int .i64 lo, .int .i64 hi] w fun e w' => e = .returned (.bool false) ∧ w = w' := by
  obtain ⟨h0, h1⟩ := h
  go_enter Try.func131, Try.ntmps131
  go_wp2
  go_ret
  exact ⟨ret_bool (by first | rfl | (simp; omega)), rfl⟩
theorem routside_yes (n lo hi : Int) (h : ¬ (lo ≤ n ∧ n ≤ hi)) (w : World) : Calls Try.prog 131 #[.int .i64 n, .int .i64 lo, .int .i64 hi] w fun e w' => e = .returned (.bool true) ∧ w = w' := by
  by_cases h0 : lo ≤ n
  · have h1 : ¬ n ≤ hi := fun h1 => h ⟨h0, h1⟩
    clear h
    go_enter Try.func131, Try.ntmps131
    go_wp2
    go_ret
    exact ⟨ret_bool (by first | rfl | (simp; omega)), rfl⟩
  · clear h
    go_enter Try.func131, Try.ntmps131
    go_wp2
    go_ret
    exact ⟨ret_bool (by first | rfl | (simp; omega)), rfl⟩

/-- A quotient rounded down is what Go's and its rest make of it. -/
theorem floor_eq {a b : Int} (hb : 1 ≤ b) : a / b = if a.tmod b < 0 then a.tdiv b - 1 else a.tdiv b := by
  rw [Int.tdiv_eq_ediv, Int.tmod_eq_emod]
  have h3 := Int.emod_nonneg a (by omega : b ≠ 0)
  have h4 := Int.emod_lt_of_pos a (by omega : 0 < b)
  have hs : b.sign = 1 := Int.sign_eq_one_of_pos (by omega)
  have hn : (b.natAbs : Int) = b := by omega
  by_cases hp : 0 ≤ a ∨ b ∣ a
  · rw [if_pos hp, if_pos hp, if_neg (by omega)]; omega
  · rw [if_neg hp, if_neg hp, hs, if_pos (by omega)]; omega
theorem tdiv_bds (a b : Int) : -(a.natAbs : Int) ≤ a.tdiv b ∧ a.tdiv b ≤ a.natAbs := by
  have h := Int.natAbs_tdiv a b
  have : (a.tdiv b).natAbs ≤ a.natAbs := by rw [h]; exact Nat.div_le_self _ _
  omega
theorem tmod_bds {a b : Int} (hb : 1 ≤ b) : -b < a.tmod b ∧ a.tmod b < b := by
  refine ⟨?_, Int.tmod_lt_of_pos a (by omega)⟩
  rw [Int.tmod_eq_emod]
  have h3 := Int.emod_nonneg a (by omega : b ≠ 0)
  have h4 := Int.emod_lt_of_pos a (by omega : 0 < b)
  have hz : a % b = 0 → b ∣ a := Int.dvd_of_emod_eq_zero
  split
  · omega
  · rename_i hp
    have : a % b ≠ 0 := fun h => hp (.inr (hz h))
    omega

set_option maxHeartbeats 800000 in
theorem rfloor_is (a b : Int) (ha : -1000000000000000000 ≤ a ∧ a ≤ 1000000000000000000) (hb : 1 ≤ b ∧ b ≤ 1000000000000000000) (w : World) {v : Int} (hv : Hid (a / b = v)) :
    Calls Try.prog 173 #[.int .i64 a, .int .i64 b] w fun e w' => e = .returned (.int .i64 v) ∧ w = w' := by
  have q := hv.out
  rw [floor_eq hb.1] at q
  have d := tdiv_bds a b
  have m := tmod_bds (a := a) hb.1
  have wd : IntKind.i64.wrap (a.tdiv b) = a.tdiv b := IntWalk.i64_in _ (by omega)
  have wm : IntKind.i64.wrap (a.tmod b) = a.tmod b := IntWalk.i64_in _ (by omega)
  have hne0 : ¬ b = 0 := by omega
  have hne1 : (b == 0) = false := by rw [beq_eq_false_iff_ne]; omega
  have w1 : IntKind.i64.wrap (a.tdiv b - 1) = a.tdiv b - 1 := IntWalk.i64_in _ (by omega)
  clear hv d m
  by_cases h : a.tmod b < 0
  · rw [if_pos h] at q
    have Q := Lib.hid q
    clear q
    go_enter Try.func173, Try.ntmps173
    go_wp2
    go_ret
    exact ⟨ret_int (by have := Q.out; omega), rfl⟩
  · rw [if_neg h] at q
    have Q := Lib.hid q
    clear q
    go_enter Try.func173, Try.ntmps173
    go_wp2
    go_ret
    exact ⟨ret_int (by have := Q.out; omega), rfl⟩

set_option maxHeartbeats 800000 in
theorem rstep_is (s x c : Int) (hs : 0 ≤ s ∧ s ≤ 10000000) (hx : 0 ≤ x ∧ x ≤ 10000) (hc : 1 ≤ c ∧ c ≤ 1000) (w : World) {v : Int} (hv : Hid (stepF s x c = v)) :
    Calls Try.prog 138 #[.int .i64 s, .int .i64 x, .int .i64 c] w fun e w' => e = .returned (.int .i64 v) ∧ w = w' := by
  have hb := stepF_bd hs hx hc.1
  rw [hv.out] at hb
  have hvv := hv.out
  rw [stepF_eq hc.1] at hvv
  obtain ⟨X, hX⟩ : ∃ X, (x * 1000 - s) / c = X := ⟨_, rfl⟩
  rw [hX] at hvv
  have HX := Lib.hid hX
  have rv : IntKind.i64.wrap (s + X) = v := by rw [hvv]; exact IntWalk.i64_in _ (by omega)
  obtain ⟨x0, x1⟩ := hx
  obtain ⟨c0, c1⟩ := hc
  obtain ⟨s0, s1⟩ := hs
  clear hv hX hb hvv
  go_enter Try.func138, Try.ntmps138
  go_wp2_with (go_at_call 173; refine (rfloor_is _ _ ⟨by omega, by omega⟩ ⟨by omega, by omega⟩ _ HX).mono ?_; rintro e w1 ⟨rfl, rfl⟩)
  go_ret
  exact ⟨ret_int (by first | exact rv | rfl), rfl⟩

theorem rfault_ok (s c : Int) (h : Hid ((0 ≤ s ∧ s ≤ 10000000) ∧ 1 ≤ c ∧ c ≤ 1000)) (w : World) : Calls Try.prog 142 #[.int .i64 s, .int .i64 c] w fun e w' => e = .returned (.int .i64 0) ∧ w = w' := by
  go_enter Try.func142, Try.ntmps142
  go_wp2_with (go_at_call 131; refine (routside_no _ _ _ (by have := h.out; omega) _).mono ?_; rintro e w1 ⟨rfl, rfl⟩)
  go_ret
  exact ⟨rfl, rfl⟩
theorem rfault_no (s c : Int) (h : Hid (¬ ((0 ≤ s ∧ s ≤ 10000000) ∧ 1 ≤ c ∧ c ≤ 1000))) (w : World) : Calls Try.prog 142 #[.int .i64 s, .int .i64 c] w fun e w' => e = .returned (.int .i64 9) ∧ w = w' := by
  by_cases h1 : 0 ≤ s ∧ s ≤ 10000000
  · have H2 : Hid (¬ (1 ≤ c ∧ c ≤ 1000)) := fun h2 => h.out ⟨h1, h2⟩
    have H1 := Lib.hid h1
    clear h1
    go_enter Try.func142, Try.ntmps142
    go_wp2_with (first
      | (go_at_call 131; refine (routside_no _ _ _ (by have := H1.out; omega) _).mono ?_; rintro e w1 ⟨rfl, rfl⟩)
      | (go_at_call 131; refine (routside_yes _ _ _ (by have := H2.out; omega) _).mono ?_; rintro e w1 ⟨rfl, rfl⟩))
    go_ret
    exact ⟨rfl, rfl⟩
  · have H1 := Lib.hid h1
    clear h1
    go_enter Try.func142, Try.ntmps142
    go_wp2_with (first
      | (go_at_call 131; refine (routside_yes _ _ _ (by have := H1.out; omega) _).mono ?_; rintro e w1 ⟨rfl, rfl⟩))
    go_ret
    exact ⟨rfl, rfl⟩

set_option maxHeartbeats 800000 in
theorem RStep_any (s x c : Int) (w : World) {v E : Int} (hE : Hid (fstepE s x c = E)) (hv : Hid (fstepV s x c = v)) :
    Calls Try.prog 83 #[.int .i64 s, .int .i64 x, .int .i64 c] w fun e w' => e = .returned (.tuple #[.int .i64 v, .int .i64 E]) ∧ w = w' := by
  have q := hv.out
  unfold fstepV at q
  rw [hE.out] at q
  have p := hE.out
  unfold fstepE at p
  clear hE hv
  by_cases h1 : (0 ≤ s ∧ s ≤ 10000000) ∧ 1 ≤ c ∧ c ≤ 1000
  · by_cases h2 : 0 ≤ x ∧ x ≤ 10000
    · rw [if_pos ⟨h1.1, h2, h1.2⟩] at p
      subst p
      rw [if_pos rfl] at q
      have H1 := Lib.hid h1; have H2 := Lib.hid h2; have Q := Lib.hid q
      clear h1 h2 q
      go_enter Try.func83, Try.ntmps83
      go_wp2_with (first
        | (go_at_call 142; refine (rfault_ok _ _ H1 _).mono ?_; rintro e w1 ⟨rfl, rfl⟩)
        | (go_at_call 131; refine (routside_no _ _ _ (by have := H2.out; omega) _).mono ?_; rintro e w1 ⟨rfl, rfl⟩)
        | (go_at_call 138; refine (rstep_is _ _ _ H1.out.1 H2.out H1.out.2 _ Q).mono ?_; rintro e w1 ⟨rfl, rfl⟩))
      go_ret2
      exact ⟨rfl, rfl⟩
    · rw [if_neg (fun h => h2 h.2.1)] at p
      subst p
      rw [if_neg (by decide)] at q
      subst q
      have H1 := Lib.hid h1; have H2 := Lib.hid h2
      clear h1 h2
      go_enter Try.func83, Try.ntmps83
      go_wp2_with (first
        | (go_at_call 142; refine (rfault_ok _ _ H1 _).mono ?_; rintro e w1 ⟨rfl, rfl⟩)
        | (go_at_call 131; refine (routside_yes _ _ _ (by have := H2.out; omega) _).mono ?_; rintro e w1 ⟨rfl, rfl⟩))
      go_ret2
      exact ⟨rfl, rfl⟩
  · rw [if_neg (fun h => h1 ⟨h.1, h.2.2⟩)] at p
    subst p
    rw [if_neg (by decide)] at q
    subst q
    have H1 := Lib.hid h1
    clear h1
    go_enter Try.func83, Try.ntmps83
    go_wp2_with (first
      | (go_at_call 142; refine (rfault_no _ _ H1 _).mono ?_; rintro e w1 ⟨rfl, rfl⟩))
    go_ret2
    exact ⟨rfl, rfl⟩

end Go.Proofs.Yteaifonpkdjkcaa
