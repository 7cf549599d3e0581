/- The contract of the reference's IsName (chapter 1's). -/
import Derived.Test.YtckelojdjmaliaaBaseA
namespace Go.Proofs.Ytckelojdjmaliaa
open Go.RowKit
set_option linter.unusedSimpArgs false
set_option linter.unusedVariables false

theorem risDigit_is (n : Nat) (w : World) {b : Bool} (hb : Hid (decide (48 ≤ (n : Int) ∧ (n : Int) ≤ 57) = b)) : Calls Try.prog 70 #[.int .u8 n] w fun e w' => e = .returned (.bool b) ∧ w = w' := by
  have hv := hb.out
  clear hb
  by_cases h0 : 48 ≤ (n : Int)
  · have g0 : decide (48 ≤ (n : Int)) = true := decide_eq_true h0
    by_cases h1 : (n : Int) ≤ 57
    · have g1 : decide ((n : Int) ≤ 57) = true := decide_eq_true h1
      obtain rfl : true = b := by rw [← hv]; simp; omega
      clear hv h0 h1
      go_enter Try.func70, Try.ntmps70
      go_wp2
      go_ret
      exact ⟨rfl, rfl⟩
    · have g1 : decide ((n : Int) ≤ 57) = false := decide_eq_false h1
      obtain rfl : false = b := by rw [← hv]; simp; omega
      clear hv h0 h1
      go_enter Try.func70, Try.ntmps70
      go_wp2
      go_ret
      exact ⟨rfl, rfl⟩
  · have g0 : decide (48 ≤ (n : Int)) = false := decide_eq_false h0
    obtain rfl : false = b := by rw [← hv]; simp; omega
    clear hv h0
    go_enter Try.func70, Try.ntmps70
    go_wp2
    go_ret
    exact ⟨rfl, rfl⟩

set_option maxHeartbeats 1600000 in
theorem rname1_is (s : ByteArray) (hs : s.size ≤ 140737488355328) (w : World) {b : Bool} (hb : Hid (nameB s = b)) :
    Calls Try.prog 39 #[.string s] w fun e w' => e = .returned (.bool b) ∧ w = w' := by
  have hs2 : (s.size : Int) ≤ 140737488355328 := by omega
  by_cases a1 : s.size < 1
  · have g1 : decide ((s.size : Int) < 1) = true := decide_eq_true (by omega)
    obtain rfl : false = b := by rw [← hb.out, name_short (.inl a1)]
    clear hb a1
    go_enter Try.func39, Try.ntmps39
    go_wp2
    go_ret
    exact ⟨rfl, rfl⟩
  · have g1 : decide ((s.size : Int) < 1) = false := decide_eq_false (by omega)
    by_cases a2 : 60 < s.size
    · have g2 : decide (60 < (s.size : Int)) = true := decide_eq_true (by omega)
      obtain rfl : false = b := by rw [← hb.out, name_short (.inr a2)]
      clear hb a1 a2
      go_enter Try.func39, Try.ntmps39
      go_wp2
      go_ret
      exact ⟨rfl, rfl⟩
    · have g2 : decide (60 < (s.size : Int)) = false := decide_eq_false (by omega)
      have A1 : Hid (1 ≤ s.size ∧ s.size ≤ 60) := by show _ ∧ _; omega
      clear a1 a2
      go_enter Try.func39, Try.ntmps39
      go_wp2
      go_loop [3] (fun iv => ∃ k : Nat, k ≤ s.size ∧ iv = .int .i64 k ∧ Hid (∀ j (h : j < s.size), j < k → okC s[j].toNat = true)) (fun iv => s.size - (intOf iv).toNat)
      case atStart => exact ⟨0, Nat.zero_le _, rfl, fun j _ h => absurd h (by omega)⟩
      case round =>
        obtain ⟨k, hk, rfl, hinv⟩ := hrel
        by_cases hlt : k < s.size
        · rcases byte_cases s[k].toNat s[k].toNat_lt with ⟨hok, hc⟩ | ⟨hok, hc⟩
          · have HI : Hid (∀ j (h : j < s.size), j < k + 1 → okC s[j].toNat = true) := fun j hj hlt => by
              by_cases e : j = k
              · subst e; exact hok
              · exact hinv.out j hj (by omega)
            clear hok
            rcases hc with hc | hc | hc | hc | hc | hc
            · obtain ⟨c1, c2⟩ := hc
              have d97 : decide (97 ≤ (s[k].toNat : Int)) = true := by simp; omega
              have d65 : decide (65 ≤ (s[k].toNat : Int)) = true := by simp; omega
              have d48 : decide (48 ≤ (s[k].toNat : Int)) = true := by simp; omega
              have d122 : decide ((s[k].toNat : Int) ≤ 122) = true := by simp; omega
              have d90 : decide ((s[k].toNat : Int) ≤ 90) = false := by simp; omega
              have d57 : decide ((s[k].toNat : Int) ≤ 57) = false := by simp; omega
              have m45 : ((s[k].toNat : Int) == 45) = false := by simp; omega
              have m95 : ((s[k].toNat : Int) == 95) = false := by simp; omega
              have m46 : ((s[k].toNat : Int) == 46) = false := by simp; omega
              have k45 : ((s[k].toNat : Int) != 45) = true := by simp; omega
              have k95 : ((s[k].toNat : Int) != 95) = true := by simp; omega
              have k46 : ((s[k].toNat : Int) != 46) = true := by simp; omega
              have HD : Hid (decide (48 ≤ (s[k].toNat : Int) ∧ (s[k].toNat : Int) ≤ 57) = false) := by show _ = _; simp; omega
              clear c1 c2
              go_wp2_with (go_at_call 70; refine (risDigit_is _ _ HD).mono ?_; rintro e w1 ⟨rfl, rfl⟩)
              go_round
              case rel => exact ⟨k + 1, by omega, by go_num, HI⟩
              case measure => simp [intOf]; omega
            · obtain ⟨c1, c2⟩ := hc
              have d97 : decide (97 ≤ (s[k].toNat : Int)) = false := by simp; omega
              have d65 : decide (65 ≤ (s[k].toNat : Int)) = true := by simp; omega
              have d48 : decide (48 ≤ (s[k].toNat : Int)) = true := by simp; omega
              have d122 : decide ((s[k].toNat : Int) ≤ 122) = true := by simp; omega
              have d90 : decide ((s[k].toNat : Int) ≤ 90) = true := by simp; omega
              have d57 : decide ((s[k].toNat : Int) ≤ 57) = false := by simp; omega
              have m45 : ((s[k].toNat : Int) == 45) = false := by simp; omega
              have m95 : ((s[k].toNat : Int) == 95) = false := by simp; omega
              have m46 : ((s[k].toNat : Int) == 46) = false := by simp; omega
              have k45 : ((s[k].toNat : Int) != 45) = true := by simp; omega
              have k95 : ((s[k].toNat : Int) != 95) = true := by simp; omega
              have k46 : ((s[k].toNat : Int) != 46) = true := by simp; omega
              have HD : Hid (decide (48 ≤ (s[k].toNat : Int) ∧ (s[k].toNat : Int) ≤ 57) = false) := by show _ = _; simp; omega
              clear c1 c2
              go_wp2_with (go_at_call 70; refine (risDigit_is _ _ HD).mono ?_; rintro e w1 ⟨rfl, rfl⟩)
              go_round
              case rel => exact ⟨k + 1, by omega, by go_num, HI⟩
              case measure => simp [intOf]; omega
            · obtain ⟨c1, c2⟩ := hc
              have d97 : decide (97 ≤ (s[k].toNat : Int)) = false := by simp; omega
              have d65 : decide (65 ≤ (s[k].toNat : Int)) = false := by simp; omega
              have d48 : decide (48 ≤ (s[k].toNat : Int)) = true := by simp; omega
              have d122 : decide ((s[k].toNat : Int) ≤ 122) = true := by simp; omega
              have d90 : decide ((s[k].toNat : Int) ≤ 90) = true := by simp; omega
              have d57 : decide ((s[k].toNat : Int) ≤ 57) = true := by simp; omega
              have m45 : ((s[k].toNat : Int) == 45) = false := by simp; omega
              have m95 : ((s[k].toNat : Int) == 95) = false := by simp; omega
              have m46 : ((s[k].toNat : Int) == 46) = false := by simp; omega
              have k45 : ((s[k].toNat : Int) != 45) = true := by simp; omega
              have k95 : ((s[k].toNat : Int) != 95) = true := by simp; omega
              have k46 : ((s[k].toNat : Int) != 46) = true := by simp; omega
              have HD : Hid (decide (48 ≤ (s[k].toNat : Int) ∧ (s[k].toNat : Int) ≤ 57) = true) := by show _ = _; simp; omega
              clear c1 c2
              go_wp2_with (go_at_call 70; refine (risDigit_is _ _ HD).mono ?_; rintro e w1 ⟨rfl, rfl⟩)
              go_round
              case rel => exact ⟨k + 1, by omega, by go_num, HI⟩
              case measure => simp [intOf]; omega
            · obtain ⟨c1, c2⟩ := hc
              have d97 : decide (97 ≤ (s[k].toNat : Int)) = false := by simp; omega
              have d65 : decide (65 ≤ (s[k].toNat : Int)) = false := by simp; omega
              have d48 : decide (48 ≤ (s[k].toNat : Int)) = false := by simp; omega
              have d122 : decide ((s[k].toNat : Int) ≤ 122) = true := by simp; omega
              have d90 : decide ((s[k].toNat : Int) ≤ 90) = true := by simp; omega
              have d57 : decide ((s[k].toNat : Int) ≤ 57) = true := by simp; omega
              have m45 : ((s[k].toNat : Int) == 45) = true := by simp; omega
              have m95 : ((s[k].toNat : Int) == 95) = false := by simp; omega
              have m46 : ((s[k].toNat : Int) == 46) = false := by simp; omega
              have k45 : ((s[k].toNat : Int) != 45) = false := by simp; omega
              have k95 : ((s[k].toNat : Int) != 95) = true := by simp; omega
              have k46 : ((s[k].toNat : Int) != 46) = true := by simp; omega
              have HD : Hid (decide (48 ≤ (s[k].toNat : Int) ∧ (s[k].toNat : Int) ≤ 57) = false) := by show _ = _; simp; omega
              clear c1 c2
              go_wp2_with (go_at_call 70; refine (risDigit_is _ _ HD).mono ?_; rintro e w1 ⟨rfl, rfl⟩)
              go_round
              case rel => exact ⟨k + 1, by omega, by go_num, HI⟩
              case measure => simp [intOf]; omega
            · obtain ⟨c1, c2⟩ := hc
              have d97 : decide (97 ≤ (s[k].toNat : Int)) = false := by simp; omega
              have d65 : decide (65 ≤ (s[k].toNat : Int)) = true := by simp; omega
              have d48 : decide (48 ≤ (s[k].toNat : Int)) = true := by simp; omega
              have d122 : decide ((s[k].toNat : Int) ≤ 122) = true := by simp; omega
              have d90 : decide ((s[k].toNat : Int) ≤ 90) = false := by simp; omega
              have d57 : decide ((s[k].toNat : Int) ≤ 57) = false := by simp; omega
              have m45 : ((s[k].toNat : Int) == 45) = false := by simp; omega
              have m95 : ((s[k].toNat : Int) == 95) = true := by simp; omega
              have m46 : ((s[k].toNat : Int) == 46) = false := by simp; omega
              have k45 : ((s[k].toNat : Int) != 45) = true := by simp; omega
              have k95 : ((s[k].toNat : Int) != 95) = false := by simp; omega
              have k46 : ((s[k].toNat : Int) != 46) = true := by simp; omega
              have HD : Hid (decide (48 ≤ (s[k].toNat : Int) ∧ (s[k].toNat : Int) ≤ 57) = false) := by show _ = _; simp; omega
              clear c1 c2
              go_wp2_with (go_at_call 70; refine (risDigit_is _ _ HD).mono ?_; rintro e w1 ⟨rfl, rfl⟩)
              go_round
              case rel => exact ⟨k + 1, by omega, by go_num, HI⟩
              case measure => simp [intOf]; omega
            · obtain ⟨c1, c2⟩ := hc
              have d97 : decide (97 ≤ (s[k].toNat : Int)) = false := by simp; omega
              have d65 : decide (65 ≤ (s[k].toNat : Int)) = false := by simp; omega
              have d48 : decide (48 ≤ (s[k].toNat : Int)) = false := by simp; omega
              have d122 : decide ((s[k].toNat : Int) ≤ 122) = true := by simp; omega
              have d90 : decide ((s[k].toNat : Int) ≤ 90) = true := by simp; omega
              have d57 : decide ((s[k].toNat : Int) ≤ 57) = true := by simp; omega
              have m45 : ((s[k].toNat : Int) == 45) = false := by simp; omega
              have m95 : ((s[k].toNat : Int) == 95) = false := by simp; omega
              have m46 : ((s[k].toNat : Int) == 46) = true := by simp; omega
              have k45 : ((s[k].toNat : Int) != 45) = true := by simp; omega
              have k95 : ((s[k].toNat : Int) != 95) = true := by simp; omega
              have k46 : ((s[k].toNat : Int) != 46) = false := by simp; omega
              have HD : Hid (decide (48 ≤ (s[k].toNat : Int) ∧ (s[k].toNat : Int) ≤ 57) = false) := by show _ = _; simp; omega
              clear c1 c2
              go_wp2_with (go_at_call 70; refine (risDigit_is _ _ HD).mono ?_; rintro e w1 ⟨rfl, rfl⟩)
              go_round
              case rel => exact ⟨k + 1, by omega, by go_num, HI⟩
              case measure => simp [intOf]; omega
          · have HV : Hid (b = false) := by show _ = _; rw [← hb.out]; exact name_bad hlt hok
            clear hok
            rcases hc with hc | hc | hc | hc | hc | hc
            · obtain ⟨c1, c2⟩ := hc
              have d97 : decide (97 ≤ (s[k].toNat : Int)) = false := by simp; omega
              have d65 : decide (65 ≤ (s[k].toNat : Int)) = false := by simp; omega
              have d48 : decide (48 ≤ (s[k].toNat : Int)) = false := by simp; omega
              have d122 : decide ((s[k].toNat : Int) ≤ 122) = true := by simp; omega
              have d90 : decide ((s[k].toNat : Int) ≤ 90) = true := by simp; omega
              have d57 : decide ((s[k].toNat : Int) ≤ 57) = true := by simp; omega
              have m45 : ((s[k].toNat : Int) == 45) = false := by simp; omega
              have m95 : ((s[k].toNat : Int) == 95) = false := by simp; omega
              have m46 : ((s[k].toNat : Int) == 46) = false := by simp; omega
              have k45 : ((s[k].toNat : Int) != 45) = true := by simp; omega
              have k95 : ((s[k].toNat : Int) != 95) = true := by simp; omega
              have k46 : ((s[k].toNat : Int) != 46) = true := by simp; omega
              have HD : Hid (decide (48 ≤ (s[k].toNat : Int) ∧ (s[k].toNat : Int) ≤ 57) = false) := by show _ = _; simp; omega
              clear c1 c2
              go_wp2_with (go_at_call 70; refine (risDigit_is _ _ HD).mono ?_; rintro e w1 ⟨rfl, rfl⟩)
              go_ret
              exact ⟨ret_bool HV.out.symm, rfl⟩
            · obtain ⟨c1, c2⟩ := hc
              have d97 : decide (97 ≤ (s[k].toNat : Int)) = false := by simp; omega
              have d65 : decide (65 ≤ (s[k].toNat : Int)) = false := by simp; omega
              have d48 : decide (48 ≤ (s[k].toNat : Int)) = false := by simp; omega
              have d122 : decide ((s[k].toNat : Int) ≤ 122) = true := by simp; omega
              have d90 : decide ((s[k].toNat : Int) ≤ 90) = true := by simp; omega
              have d57 : decide ((s[k].toNat : Int) ≤ 57) = true := by simp; omega
              have m45 : ((s[k].toNat : Int) == 45) = false := by simp; omega
              have m95 : ((s[k].toNat : Int) == 95) = false := by simp; omega
              have m46 : ((s[k].toNat : Int) == 46) = false := by simp; omega
              have k45 : ((s[k].toNat : Int) != 45) = true := by simp; omega
              have k95 : ((s[k].toNat : Int) != 95) = true := by simp; omega
              have k46 : ((s[k].toNat : Int) != 46) = true := by simp; omega
              have HD : Hid (decide (48 ≤ (s[k].toNat : Int) ∧ (s[k].toNat : Int) ≤ 57) = false) := by show _ = _; simp; omega
              clear c1 c2
              go_wp2_with (go_at_call 70; refine (risDigit_is _ _ HD).mono ?_; rintro e w1 ⟨rfl, rfl⟩)
              go_ret
              exact ⟨ret_bool HV.out.symm, rfl⟩
            · obtain ⟨c1, c2⟩ := hc
              have d97 : decide (97 ≤ (s[k].toNat : Int)) = false := by simp; omega
              have d65 : decide (65 ≤ (s[k].toNat : Int)) = false := by simp; omega
              have d48 : decide (48 ≤ (s[k].toNat : Int)) = true := by simp; omega
              have d122 : decide ((s[k].toNat : Int) ≤ 122) = true := by simp; omega
              have d90 : decide ((s[k].toNat : Int) ≤ 90) = true := by simp; omega
              have d57 : decide ((s[k].toNat : Int) ≤ 57) = false := by simp; omega
              have m45 : ((s[k].toNat : Int) == 45) = false := by simp; omega
              have m95 : ((s[k].toNat : Int) == 95) = false := by simp; omega
              have m46 : ((s[k].toNat : Int) == 46) = false := by simp; omega
              have k45 : ((s[k].toNat : Int) != 45) = true := by simp; omega
              have k95 : ((s[k].toNat : Int) != 95) = true := by simp; omega
              have k46 : ((s[k].toNat : Int) != 46) = true := by simp; omega
              have HD : Hid (decide (48 ≤ (s[k].toNat : Int) ∧ (s[k].toNat : Int) ≤ 57) = false) := by show _ = _; simp; omega
              clear c1 c2
              go_wp2_with (go_at_call 70; refine (risDigit_is _ _ HD).mono ?_; rintro e w1 ⟨rfl, rfl⟩)
              go_ret
              exact ⟨ret_bool HV.out.symm, rfl⟩
            · obtain ⟨c1, c2⟩ := hc
              have d97 : decide (97 ≤ (s[k].toNat : Int)) = false := by simp; omega
              have d65 : decide (65 ≤ (s[k].toNat : Int)) = true := by simp; omega
              have d48 : decide (48 ≤ (s[k].toNat : Int)) = true := by simp; omega
              have d122 : decide ((s[k].toNat : Int) ≤ 122) = true := by simp; omega
              have d90 : decide ((s[k].toNat : Int) ≤ 90) = false := by simp; omega
              have d57 : decide ((s[k].toNat : Int) ≤ 57) = false := by simp; omega
              have m45 : ((s[k].toNat : Int) == 45) = false := by simp; omega
              have m95 : ((s[k].toNat : Int) == 95) = false := by simp; omega
              have m46 : ((s[k].toNat : Int) == 46) = false := by simp; omega
              have k45 : ((s[k].toNat : Int) != 45) = true := by simp; omega
              have k95 : ((s[k].toNat : Int) != 95) = true := by simp; omega
              have k46 : ((s[k].toNat : Int) != 46) = true := by simp; omega
              have HD : Hid (decide (48 ≤ (s[k].toNat : Int) ∧ (s[k].toNat : Int) ≤ 57) = false) := by show _ = _; simp; omega
              clear c1 c2
              go_wp2_with (go_at_call 70; refine (risDigit_is _ _ HD).mono ?_; rintro e w1 ⟨rfl, rfl⟩)
              go_ret
              exact ⟨ret_bool HV.out.symm, rfl⟩
            · obtain ⟨c1, c2⟩ := hc
              have d97 : decide (97 ≤ (s[k].toNat : Int)) = false := by simp; omega
              have d65 : decide (65 ≤ (s[k].toNat : Int)) = true := by simp; omega
              have d48 : decide (48 ≤ (s[k].toNat : Int)) = true := by simp; omega
              have d122 : decide ((s[k].toNat : Int) ≤ 122) = true := by simp; omega
              have d90 : decide ((s[k].toNat : Int) ≤ 90) = false := by simp; omega
              have d57 : decide ((s[k].toNat : Int) ≤ 57) = false := by simp; omega
              have m45 : ((s[k].toNat : Int) == 45) = false := by simp; omega
              have m95 : ((s[k].toNat : Int) == 95) = false := by simp; omega
              have m46 : ((s[k].toNat : Int) == 46) = false := by simp; omega
              have k45 : ((s[k].toNat : Int) != 45) = true := by simp; omega
              have k95 : ((s[k].toNat : Int) != 95) = true := by simp; omega
              have k46 : ((s[k].toNat : Int) != 46) = true := by simp; omega
              have HD : Hid (decide (48 ≤ (s[k].toNat : Int) ∧ (s[k].toNat : Int) ≤ 57) = false) := by show _ = _; simp; omega
              clear c1 c2
              go_wp2_with (go_at_call 70; refine (risDigit_is _ _ HD).mono ?_; rintro e w1 ⟨rfl, rfl⟩)
              go_ret
              exact ⟨ret_bool HV.out.symm, rfl⟩
            · obtain ⟨c1, c2⟩ := hc
              have d97 : decide (97 ≤ (s[k].toNat : Int)) = true := by simp; omega
              have d65 : decide (65 ≤ (s[k].toNat : Int)) = true := by simp; omega
              have d48 : decide (48 ≤ (s[k].toNat : Int)) = true := by simp; omega
              have d122 : decide ((s[k].toNat : Int) ≤ 122) = false := by simp; omega
              have d90 : decide ((s[k].toNat : Int) ≤ 90) = false := by simp; omega
              have d57 : decide ((s[k].toNat : Int) ≤ 57) = false := by simp; omega
              have m45 : ((s[k].toNat : Int) == 45) = false := by simp; omega
              have m95 : ((s[k].toNat : Int) == 95) = false := by simp; omega
              have m46 : ((s[k].toNat : Int) == 46) = false := by simp; omega
              have k45 : ((s[k].toNat : Int) != 45) = true := by simp; omega
              have k95 : ((s[k].toNat : Int) != 95) = true := by simp; omega
              have k46 : ((s[k].toNat : Int) != 46) = true := by simp; omega
              have HD : Hid (decide (48 ≤ (s[k].toNat : Int) ∧ (s[k].toNat : Int) ≤ 57) = false) := by show _ = _; simp; omega
              clear c1 c2
              go_wp2_with (go_at_call 70; refine (risDigit_is _ _ HD).mono ?_; rintro e w1 ⟨rfl, rfl⟩)
              go_ret
              exact ⟨ret_bool HV.out.symm, rfl⟩
        · have HV : Hid (b = true) := by show _ = _; rw [← hb.out]; exact name_good A1.out.1 A1.out.2 (fun j hj => hinv.out j hj (by omega))
          clear hinv
          go_wp2
          go_ret
          exact ⟨ret_bool HV.out.symm, rfl⟩
end Go.Proofs.Ytckelojdjmaliaa
