/- The contract of the reference's IsName. -/
import Derived.Test.YtgkhhfojioepgaaBaseA
namespace Go.Proofs.Ytgkhhfojioepgaa
open Go.RowKit
set_option linter.unusedSimpArgs false
set_option linter.unusedVariables false

set_option maxHeartbeats 1600000 in
theorem rname_is (s : ByteArray) (hs : s.size ≤ 140737488355328) (w : World) {b : Bool} (hb : Hid (nameB s = b)) :
    Calls Try.prog 120 #[.string s] w fun e w' => e = .returned (.bool b) ∧ w = w' := by
  have hs2 : (s.size : Int) ≤ 140737488355328 := by omega
  go_enter Try.func120, Try.ntmps120
  go_wp2
  go_loop [3] (fun iv => ∃ k : Nat, k ≤ s.size ∧ iv = .int .i64 k ∧ Hid (∀ j (h : j < s.size), j < k → okC s[j].toNat = true)) (fun iv => s.size - (intOf iv).toNat)
  case atStart => exact ⟨0, Nat.zero_le _, rfl, fun j _ h => absurd h (by omega)⟩
  case round =>
    obtain ⟨k, hk, rfl, hinv⟩ := hrel
    by_cases hlt : k < s.size
    · rcases byte_cases s[k].toNat s[k].toNat_lt with ⟨hok, hc⟩ | ⟨hok, hc⟩
      · have HI : Hid (∀ j (h : j < s.size), j < k + 1 → okC s[j].toNat = true) := fun j hj hlt => by
          by_cases e : j = k
          · subst e; exact hok
          · exact hinv.out j hj (by omega)
        clear hok
        rcases hc with hc | hc | hc | hc | hc | hc
        · obtain ⟨c1, c2⟩ := hc
          have d97 : decide (97 ≤ (s[k].toNat : Int)) = true := by simp; omega
          have d65 : decide (65 ≤ (s[k].toNat : Int)) = true := by simp; omega
          have d48 : decide (48 ≤ (s[k].toNat : Int)) = true := by simp; omega
          have d122 : decide ((s[k].toNat : Int) ≤ 122) = true := by simp; omega
          have d90 : decide ((s[k].toNat : Int) ≤ 90) = false := by simp; omega
          have d57 : decide ((s[k].toNat : Int) ≤ 57) = false := by simp; omega
          have m45 : ((s[k].toNat : Int) == 45) = false := by simp; omega
          have m95 : ((s[k].toNat : Int) == 95) = false := by simp; omega
          have m46 : ((s[k].toNat : Int) == 46) = false := by simp; omega
          clear c1 c2
          go_wp2
          go_round
          case rel => exact ⟨k + 1, by omega, by go_num, HI⟩
          case measure => simp [intOf]; omega
        · obtain ⟨c1, c2⟩ := hc
          have d97 : decide (97 ≤ (s[k].toNat : Int)) = false := by simp; omega
          have d65 : decide (65 ≤ (s[k].toNat : Int)) = true := by simp; omega
          have d48 : decide (48 ≤ (s[k].toNat : Int)) = true := by simp; omega
          have d122 : decide ((s[k].toNat : Int) ≤ 122) = true := by simp; omega
          have d90 : decide ((s[k].toNat : Int) ≤ 90) = true := by simp; omega
          have d57 : decide ((s[k].toNat : Int) ≤ 57) = false := by simp; omega
          have m45 : ((s[k].toNat : Int) == 45) = false := by simp; omega
          have m95 : ((s[k].toNat : Int) == 95) = false := by simp; omega
          have m46 : ((s[k].toNat : Int) == 46) = false := by simp; omega
          clear c1 c2
          go_wp2
          go_round
          case rel => exact ⟨k + 1, by omega, by go_num, HI⟩
          case measure => simp [intOf]; omega
        · obtain ⟨c1, c2⟩ := hc
          have d97 : decide (97 ≤ (s[k].toNat : Int)) = false := by simp; omega
          have d65 : decide (65 ≤ (s[k].toNat : Int)) = false := by simp; omega
          have d48 : decide (48 ≤ (s[k].toNat : Int)) = true := by simp; omega
          have d122 : decide ((s[k].toNat : Int) ≤ 122) = true := by simp; omega
          have d90 : decide ((s[k].toNat : Int) ≤ 90) = true := by simp; omega
          have d57 : decide ((s[k].toNat : Int) ≤ 57) = true := by simp; omega
          have m45 : ((s[k].toNat : Int) == 45) = false := by simp; omega
          have m95 : ((s[k].toNat : Int) == 95) = false := by simp; omega
          have m46 : ((s[k].toNat : Int) == 46) = false := by simp; omega
          clear c1 c2
          go_wp2
          go_round
          case rel => exact ⟨k + 1, by omega, by go_num, HI⟩
          case measure => simp [intOf]; omega
        · obtain ⟨c1, c2⟩ := hc
          have d97 : decide (97 ≤ (s[k].toNat : Int)) = false := by simp; omega
          have d65 : decide (65 ≤ (s[k].toNat : Int)) = false := by simp; omega
          have d48 : decide (48 ≤ (s[k].toNat : Int)) = false := by simp; omega
          have d122 : decide ((s[k].toNat : Int) ≤ 122) = true := by simp; omega
          have d90 : decide ((s[k].toNat : Int) ≤ 90) = true := by simp; omega
          have d57 : decide ((s[k].toNat : Int) ≤ 57) = true := by simp; omega
          have m45 : ((s[k].toNat : Int) == 45) = true := by simp; omega
          have m95 : ((s[k].toNat : Int) == 95) = false := by simp; omega
          have m46 : ((s[k].toNat : Int) == 46) = false := by simp; omega
          clear c1 c2
          go_wp2
          go_round
          case rel => exact ⟨k + 1, by omega, by go_num, HI⟩
          case measure => simp [intOf]; omega
        · obtain ⟨c1, c2⟩ := hc
          have d97 : decide (97 ≤ (s[k].toNat : Int)) = false := by simp; omega
          have d65 : decide (65 ≤ (s[k].toNat : Int)) = true := by simp; omega
          have d48 : decide (48 ≤ (s[k].toNat : Int)) = true := by simp; omega
          have d122 : decide ((s[k].toNat : Int) ≤ 122) = true := by simp; omega
          have d90 : decide ((s[k].toNat : Int) ≤ 90) = false := by simp; omega
          have d57 : decide ((s[k].toNat : Int) ≤ 57) = false := by simp; omega
          have m45 : ((s[k].toNat : Int) == 45) = false := by simp; omega
          have m95 : ((s[k].toNat : Int) == 95) = true := by simp; omega
          have m46 : ((s[k].toNat : Int) == 46) = false := by simp; omega
          clear c1 c2
          go_wp2
          go_round
          case rel => exact ⟨k + 1, by omega, by go_num, HI⟩
          case measure => simp [intOf]; omega
        · obtain ⟨c1, c2⟩ := hc
          have d97 : decide (97 ≤ (s[k].toNat : Int)) = false := by simp; omega
          have d65 : decide (65 ≤ (s[k].toNat : Int)) = false := by simp; omega
          have d48 : decide (48 ≤ (s[k].toNat : Int)) = false := by simp; omega
          have d122 : decide ((s[k].toNat : Int) ≤ 122) = true := by simp; omega
          have d90 : decide ((s[k].toNat : Int) ≤ 90) = true := by simp; omega
          have d57 : decide ((s[k].toNat : Int) ≤ 57) = true := by simp; omega
          have m45 : ((s[k].toNat : Int) == 45) = false := by simp; omega
          have m95 : ((s[k].toNat : Int) == 95) = false := by simp; omega
          have m46 : ((s[k].toNat : Int) == 46) = true := by simp; omega
          clear c1 c2
          go_wp2
          go_round
          case rel => exact ⟨k + 1, by omega, by go_num, HI⟩
          case measure => simp [intOf]; omega
      · have HV : Hid (b = false) := by show _ = _; rw [← hb.out]; exact name_bad hlt hok
        clear hok
        rcases hc with hc | hc | hc | hc | hc | hc
        · obtain ⟨c1, c2⟩ := hc
          have d97 : decide (97 ≤ (s[k].toNat : Int)) = false := by simp; omega
          have d65 : decide (65 ≤ (s[k].toNat : Int)) = false := by simp; omega
          have d48 : decide (48 ≤ (s[k].toNat : Int)) = false := by simp; omega
          have d122 : decide ((s[k].toNat : Int) ≤ 122) = true := by simp; omega
          have d90 : decide ((s[k].toNat : Int) ≤ 90) = true := by simp; omega
          have d57 : decide ((s[k].toNat : Int) ≤ 57) = true := by simp; omega
          have m45 : ((s[k].toNat : Int) == 45) = false := by simp; omega
          have m95 : ((s[k].toNat : Int) == 95) = false := by simp; omega
          have m46 : ((s[k].toNat : Int) == 46) = false := by simp; omega
          clear c1 c2
          go_wp2
          go_ret
          exact ⟨ret_bool HV.out.symm, rfl⟩
        · obtain ⟨c1, c2⟩ := hc
          have d97 : decide (97 ≤ (s[k].toNat : Int)) = false := by simp; omega
          have d65 : decide (65 ≤ (s[k].toNat : Int)) = false := by simp; omega
          have d48 : decide (48 ≤ (s[k].toNat : Int)) = false := by simp; omega
          have d122 : decide ((s[k].toNat : Int) ≤ 122) = true := by simp; omega
          have d90 : decide ((s[k].toNat : Int) ≤ 90) = true := by simp; omega
          have d57 : decide ((s[k].toNat : Int) ≤ 57) = true := by simp; omega
          have m45 : ((s[k].toNat : Int) == 45) = false := by simp; omega
          have m95 : ((s[k].toNat : Int) == 95) = false := by simp; omega
          have m46 : ((s[k].toNat : Int) == 46) = false := by simp; omega
          clear c1 c2
          go_wp2
          go_ret
          exact ⟨ret_bool HV.out.symm, rfl⟩
        · obtain ⟨c1, c2⟩ := hc
          have d97 : decide (97 ≤ (s[k].toNat : Int)) = false := by simp; omega
          have d65 : decide (65 ≤ (s[k].toNat : Int)) = false := by simp; omega
          have d48 : decide (48 ≤ (s[k].toNat : Int)) = true := by simp; omega
          have d122 : decide ((s[k].toNat : Int) ≤ 122) = true := by simp; omega
          have d90 : decide ((s[k].toNat : Int) ≤ 90) = true := by simp; omega
          have d57 : decide ((s[k].toNat : Int) ≤ 57) = false := by simp; omega
          have m45 : ((s[k].toNat : Int) == 45) = false := by simp; omega
          have m95 : ((s[k].toNat : Int) == 95) = false := by simp; omega
          have m46 : ((s[k].toNat : Int) == 46) = false := by simp; omega
          clear c1 c2
          go_wp2
          go_ret
          exact ⟨ret_bool HV.out.symm, rfl⟩
        · obtain ⟨c1, c2⟩ := hc
          have d97 : decide (97 ≤ (s[k].toNat : Int)) = false := by simp; omega
          have d65 : decide (65 ≤ (s[k].toNat : Int)) = true := by simp; omega
          have d48 : decide (48 ≤ (s[k].toNat : Int)) = true := by simp; omega
          have d122 : decide ((s[k].toNat : Int) ≤ 122) = true := by simp; omega
          have d90 : decide ((s[k].toNat : Int) ≤ 90) = false := by simp; omega
          have d57 : decide ((s[k].toNat : Int) ≤ 57) = false := by simp; omega
          have m45 : ((s[k].toNat : Int) == 45) = false := by simp; omega
          have m95 : ((s[k].toNat : Int) == 95) = false := by simp; omega
          have m46 : ((s[k].toNat : Int) == 46) = false := by simp; omega
          clear c1 c2
          go_wp2
          go_ret
          exact ⟨ret_bool HV.out.symm, rfl⟩
        · obtain ⟨c1, c2⟩ := hc
          have d97 : decide (97 ≤ (s[k].toNat : Int)) = false := by simp; omega
          have d65 : decide (65 ≤ (s[k].toNat : Int)) = true := by simp; omega
          have d48 : decide (48 ≤ (s[k].toNat : Int)) = true := by simp; omega
          have d122 : decide ((s[k].toNat : Int) ≤ 122) = true := by simp; omega
          have d90 : decide ((s[k].toNat : Int) ≤ 90) = false := by simp; omega
          have d57 : decide ((s[k].toNat : Int) ≤ 57) = false := by simp; omega
          have m45 : ((s[k].toNat : Int) == 45) = false := by simp; omega
          have m95 : ((s[k].toNat : Int) == 95) = false := by simp; omega
          have m46 : ((s[k].toNat : Int) == 46) = false := by simp; omega
          clear c1 c2
          go_wp2
          go_ret
          exact ⟨ret_bool HV.out.symm, rfl⟩
        · obtain ⟨c1, c2⟩ := hc
          have d97 : decide (97 ≤ (s[k].toNat : Int)) = true := by simp; omega
          have d65 : decide (65 ≤ (s[k].toNat : Int)) = true := by simp; omega
          have d48 : decide (48 ≤ (s[k].toNat : Int)) = true := by simp; omega
          have d122 : decide ((s[k].toNat : Int) ≤ 122) = false := by simp; omega
          have d90 : decide ((s[k].toNat : Int) ≤ 90) = false := by simp; omega
          have d57 : decide ((s[k].toNat : Int) ≤ 57) = false := by simp; omega
          have m45 : ((s[k].toNat : Int) == 45) = false := by simp; omega
          have m95 : ((s[k].toNat : Int) == 95) = false := by simp; omega
          have m46 : ((s[k].toNat : Int) == 46) = false := by simp; omega
          clear c1 c2
          go_wp2
          go_ret
          exact ⟨ret_bool HV.out.symm, rfl⟩
    · by_cases h1 : 1 ≤ (s.size : Int)
      · by_cases h2 : (s.size : Int) ≤ 60
        · have HV : Hid (b = true) := by show _ = _; rw [← hb.out]; exact name_good (by omega) (by omega) (fun j hj => hinv.out j hj (by omega))
          go_wp2
          go_ret
          exact ⟨ret_bool HV.out.symm, rfl⟩
        · have HV : Hid (b = false) := by show _ = _; rw [← hb.out]; exact name_short (.inr (by omega))
          go_wp2
          go_ret
          exact ⟨ret_bool HV.out.symm, rfl⟩
      · have HV : Hid (b = false) := by show _ = _; rw [← hb.out]; exact name_short (.inl (by omega))
        go_wp2
        go_ret
        exact ⟨ret_bool HV.out.symm, rfl⟩

end Go.Proofs.Ytgkhhfojioepgaa
