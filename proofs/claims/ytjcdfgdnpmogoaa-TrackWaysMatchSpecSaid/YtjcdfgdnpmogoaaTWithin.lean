/- The contracts of within, isPlaced, isMeasured, isLapName and Span. -/
import Derived.Test.YtjcdfgdnpmogoaaTName
namespace Go.Proofs.Ytjcdfgdnpmogoaa
open Go.RowKit

theorem within_yes (n lo hi : Int) (h0 : lo ≤ n) (h1 : n ≤ hi) (w : World) : Calls Try.prog 182 #[.int .i64 n, .int .i64 lo, .int .i64 hi] w fun e w' => e = .returned (.bool true) ∧ w = w' := by
  go_enter Try.func182, Try.ntmps182
  go_wp2
  go_ret
  exact ⟨ret_bool (by first | rfl | (simp; omega)), rfl⟩
theorem within_no (n lo hi : Int) (h : n < lo ∨ hi < n) (w : World) : Calls Try.prog 182 #[.int .i64 n, .int .i64 lo, .int .i64 hi] w fun e w' => e = .returned (.bool false) ∧ w = w' := by
  by_cases h0 : n < lo
  · have h2 : decide (lo ≤ n) = false := by simp; omega
    clear h
    go_enter Try.func182, Try.ntmps182
    go_wp2
    go_ret
    exact ⟨ret_bool (by first | rfl | (simp; omega)), rfl⟩
  · have h1 : lo ≤ n := by omega
    have h2 : decide (n ≤ hi) = false := by simp; omega
    clear h
    go_enter Try.func182, Try.ntmps182
    go_wp2
    go_ret
    exact ⟨ret_bool (by first | rfl | (simp; omega)), rfl⟩

theorem isPlaced_yes (x : Smp) (h1 : -100000000 ≤ x.x ∧ x.x ≤ 100000000) (h2 : -100000000 ≤ x.y ∧ x.y ≤ 100000000) (h3 : -100000 ≤ x.z ∧ x.z ≤ 100000) (w : World) :
    Calls Try.prog 156 #[.agg #[.int .i64 x.t, .int .i64 x.x, .int .i64 x.y, .int .i64 x.z, .int .i64 x.p, .int .i64 x.q, .int .i64 x.s]] w fun e w' => e = .returned (.bool true) ∧ w.grownBy w' none := by
  obtain ⟨t, x, y, z, p, q, s⟩ := x
  simp only at h1 h2 h3 ⊢
  have H1 := Lib.hid h1; have H2 := Lib.hid h2; have H3 := Lib.hid h3; clear h1 h2 h3
  go_enter Try.func156, Try.ntmps156
  go_wp2_with fail
  refine (within_yes _ _ _ H1.out.1 H1.out.2 _).mono ?_; rintro e w1 ⟨rfl, rfl⟩
  go_wp2_with fail
  refine (within_yes _ _ _ H2.out.1 H2.out.2 _).mono ?_; rintro e w1 ⟨rfl, rfl⟩
  go_wp2_with fail
  refine (within_yes _ _ _ H3.out.1 H3.out.2 _).mono ?_; rintro e w1 ⟨rfl, rfl⟩
  go_wp2_with fail
  go_ret
  exact ⟨rfl, World.grownBy_alloc _ _ _⟩
theorem isPlaced_no (x : Smp) (h : ¬ ((-100000000 ≤ x.x ∧ x.x ≤ 100000000) ∧ (-100000000 ≤ x.y ∧ x.y ≤ 100000000) ∧ (-100000 ≤ x.z ∧ x.z ≤ 100000))) (w : World) :
    Calls Try.prog 156 #[.agg #[.int .i64 x.t, .int .i64 x.x, .int .i64 x.y, .int .i64 x.z, .int .i64 x.p, .int .i64 x.q, .int .i64 x.s]] w fun e w' => e = .returned (.bool false) ∧ w.grownBy w' none := by
  obtain ⟨t, x, y, z, p, q, s⟩ := x
  simp only at h ⊢
  by_cases h1 : -100000000 ≤ x ∧ x ≤ 100000000
  · by_cases h2 : -100000000 ≤ y ∧ y ≤ 100000000
    · have h3 : z < -100000 ∨ 100000 < z := by omega
      have H1 := Lib.hid h1; have H2 := Lib.hid h2; have H3 := Lib.hid h3; clear h h1 h2 h3
      go_enter Try.func156, Try.ntmps156
      go_wp2_with fail
      refine (within_yes _ _ _ H1.out.1 H1.out.2 _).mono ?_; rintro e w1 ⟨rfl, rfl⟩
      go_wp2_with fail
      refine (within_yes _ _ _ H2.out.1 H2.out.2 _).mono ?_; rintro e w1 ⟨rfl, rfl⟩
      go_wp2_with fail
      refine (within_no _ _ _ H3.out _).mono ?_; rintro e w1 ⟨rfl, rfl⟩
      go_wp2_with fail
      go_ret
      exact ⟨rfl, World.grownBy_alloc _ _ _⟩
    · have h3 : y < -100000000 ∨ 100000000 < y := by omega
      have H1 := Lib.hid h1; have H3 := Lib.hid h3; clear h h1 h2 h3
      go_enter Try.func156, Try.ntmps156
      go_wp2_with fail
      refine (within_yes _ _ _ H1.out.1 H1.out.2 _).mono ?_; rintro e w1 ⟨rfl, rfl⟩
      go_wp2_with fail
      refine (within_no _ _ _ H3.out _).mono ?_; rintro e w1 ⟨rfl, rfl⟩
      go_wp2_with fail
      go_ret
      exact ⟨rfl, World.grownBy_alloc _ _ _⟩
  · have h3 : x < -100000000 ∨ 100000000 < x := by omega
    have H3 := Lib.hid h3; clear h h1 h3
    go_enter Try.func156, Try.ntmps156
    go_wp2_with fail
    refine (within_no _ _ _ H3.out _).mono ?_; rintro e w1 ⟨rfl, rfl⟩
    go_wp2_with fail
    go_ret
    exact ⟨rfl, World.grownBy_alloc _ _ _⟩
theorem isMeasured_yes (x : Smp) (h1 : -1 ≤ x.p ∧ x.p ≤ 300) (h2 : -1 ≤ x.q ∧ x.q ≤ 3000) (h3 : -1 ≤ x.s ∧ x.s ≤ 300) (w : World) :
    Calls Try.prog 157 #[.agg #[.int .i64 x.t, .int .i64 x.x, .int .i64 x.y, .int .i64 x.z, .int .i64 x.p, .int .i64 x.q, .int .i64 x.s]] w fun e w' => e = .returned (.bool true) ∧ w.grownBy w' none := by
  obtain ⟨t, x, y, z, p, q, s⟩ := x
  simp only at h1 h2 h3 ⊢
  have H1 := Lib.hid h1; have H2 := Lib.hid h2; have H3 := Lib.hid h3; clear h1 h2 h3
  go_enter Try.func157, Try.ntmps157
  go_wp2_with fail
  refine (within_yes _ _ _ H1.out.1 H1.out.2 _).mono ?_; rintro e w1 ⟨rfl, rfl⟩
  go_wp2_with fail
  refine (within_yes _ _ _ H2.out.1 H2.out.2 _).mono ?_; rintro e w1 ⟨rfl, rfl⟩
  go_wp2_with fail
  refine (within_yes _ _ _ H3.out.1 H3.out.2 _).mono ?_; rintro e w1 ⟨rfl, rfl⟩
  go_wp2_with fail
  go_ret
  exact ⟨rfl, World.grownBy_alloc _ _ _⟩
theorem isMeasured_no (x : Smp) (h : ¬ ((-1 ≤ x.p ∧ x.p ≤ 300) ∧ (-1 ≤ x.q ∧ x.q ≤ 3000) ∧ (-1 ≤ x.s ∧ x.s ≤ 300))) (w : World) :
    Calls Try.prog 157 #[.agg #[.int .i64 x.t, .int .i64 x.x, .int .i64 x.y, .int .i64 x.z, .int .i64 x.p, .int .i64 x.q, .int .i64 x.s]] w fun e w' => e = .returned (.bool false) ∧ w.grownBy w' none := by
  obtain ⟨t, x, y, z, p, q, s⟩ := x
  simp only at h ⊢
  by_cases h1 : -1 ≤ p ∧ p ≤ 300
  · by_cases h2 : -1 ≤ q ∧ q ≤ 3000
    · have h3 : s < -1 ∨ 300 < s := by omega
      have H1 := Lib.hid h1; have H2 := Lib.hid h2; have H3 := Lib.hid h3; clear h h1 h2 h3
      go_enter Try.func157, Try.ntmps157
      go_wp2_with fail
      refine (within_yes _ _ _ H1.out.1 H1.out.2 _).mono ?_; rintro e w1 ⟨rfl, rfl⟩
      go_wp2_with fail
      refine (within_yes _ _ _ H2.out.1 H2.out.2 _).mono ?_; rintro e w1 ⟨rfl, rfl⟩
      go_wp2_with fail
      refine (within_no _ _ _ H3.out _).mono ?_; rintro e w1 ⟨rfl, rfl⟩
      go_wp2_with fail
      go_ret
      exact ⟨rfl, World.grownBy_alloc _ _ _⟩
    · have h3 : q < -1 ∨ 3000 < q := by omega
      have H1 := Lib.hid h1; have H3 := Lib.hid h3; clear h h1 h2 h3
      go_enter Try.func157, Try.ntmps157
      go_wp2_with fail
      refine (within_yes _ _ _ H1.out.1 H1.out.2 _).mono ?_; rintro e w1 ⟨rfl, rfl⟩
      go_wp2_with fail
      refine (within_no _ _ _ H3.out _).mono ?_; rintro e w1 ⟨rfl, rfl⟩
      go_wp2_with fail
      go_ret
      exact ⟨rfl, World.grownBy_alloc _ _ _⟩
  · have h3 : p < -1 ∨ 300 < p := by omega
    have H3 := Lib.hid h3; clear h h1 h3
    go_enter Try.func157, Try.ntmps157
    go_wp2_with fail
    refine (within_no _ _ _ H3.out _).mono ?_; rintro e w1 ⟨rfl, rfl⟩
    go_wp2_with fail
    go_ret
    exact ⟨rfl, World.grownBy_alloc _ _ _⟩

set_option maxHeartbeats 800000 in
theorem isLapName_is (s : ByteArray) (hs : s.size ≤ 140737488355328) (w : World) {b : Bool} (hb : Hid (lapNameB s = b)) :
    Calls Try.prog 158 #[.string s] w fun e w' => e = .returned (.bool b) ∧ w = w' := by
  have hs2 : (s.size : Int) ≤ 140737488355328 := by omega
  by_cases h2 : 60 < (s.size : Int)
  · have HV : Hid (b = false) := by show _ = _; rw [← hb.out]; exact lapName_long (by omega)
    go_enter Try.func158, Try.ntmps158
    go_wp2
    go_ret
    exact ⟨ret_bool HV.out.symm, rfl⟩
  go_enter Try.func158, Try.ntmps158
  go_wp2
  go_loop [9] (fun iv => ∃ k : Nat, k ≤ s.size ∧ iv = .int .i64 k ∧ Hid (∀ j (h : j < s.size), j < k → lapC s[j].toNat = true)) (fun iv => s.size - (intOf iv).toNat)
  case atStart => exact ⟨0, Nat.zero_le _, rfl, fun j _ h => absurd h (by omega)⟩
  case round =>
    obtain ⟨k, hk, rfl, hinv⟩ := hrel
    by_cases hlt : k < s.size
    · by_cases hc1 : (s[k].toNat : Int) < 32
      · have HV : Hid (b = false) := by
          show _ = _; rw [← hb.out]; refine lapName_bad hlt ?_
          unfold lapC; rw [decide_eq_false (by omega)]; rfl
        go_wp2
        go_ret
        exact ⟨ret_bool HV.out.symm, rfl⟩
      · by_cases hc2 : 126 < (s[k].toNat : Int)
        · have HV : Hid (b = false) := by
            show _ = _; rw [← hb.out]; refine lapName_bad hlt ?_
            unfold lapC; rw [decide_eq_false (p := s[k].toNat ≤ 126) (by omega)]; simp
          go_wp2
          go_ret
          exact ⟨ret_bool HV.out.symm, rfl⟩
        · have HI : Hid (∀ j (h : j < s.size), j < k + 1 → lapC s[j].toNat = true) := fun j hj hlt => by
            by_cases e : j = k
            · subst e; unfold lapC; rw [decide_eq_true (by omega), decide_eq_true (by omega)]; rfl
            · exact hinv.out j hj (by omega)
          go_wp2
          go_round
          case rel => exact ⟨k + 1, by omega, by go_num, HI⟩
          case measure => simp [intOf]; omega
    · have HV : Hid (b = true) := by show _ = _; rw [← hb.out]; exact lapName_good (by omega) (fun j hj => hinv.out j hj (by omega))
      go_wp2
      go_ret
      exact ⟨ret_bool HV.out.symm, rfl⟩

end Go.Proofs.Ytjcdfgdnpmogoaa
