/- The contract of the first reference's IsName. -/
import Derived.Test.YtbacoopopokkfaaGreatDoorTName
namespace Go.Proofs.YtbacoopopokkfaaGreatDoor
open Go.RowKit
set_option linter.unusedSimpArgs false
set_option linter.unusedVariables false

theorem rdigit_is (n : Nat) (hn : n < 256) (w : World) {b : Bool} (hb : Hid (digC n = b)) :
    Calls Tryz.prog 38 #[.int .u8 (n : Int)] w fun e w' => e = .returned (.bool b) ∧ w = w' := by
  rcases (show (0 ≤ (n : Int) ∧ (n : Int) ≤ 47) ∨ (48 ≤ (n : Int) ∧ (n : Int) ≤ 57) ∨ (58 ≤ (n : Int) ∧ (n : Int) ≤ 255) by omega) with hc | hc | hc
  · obtain ⟨c1, c2⟩ := hc
    have d48 : decide (48 ≤ (n : Int)) = false := by simp; omega
    have d57 : decide ((n : Int) ≤ 57) = true := by simp; omega
    have HV : Hid (b = false) := by show _ = _; rw [← hb.out]; unfold digC; simp; omega
    clear c1 c2
    go_enter Tryz.func38, Tryz.ntmps38
    go_wp2
    go_ret
    exact ⟨ret_bool HV.out.symm, rfl⟩
  · obtain ⟨c1, c2⟩ := hc
    have d48 : decide (48 ≤ (n : Int)) = true := by simp; omega
    have d57 : decide ((n : Int) ≤ 57) = true := by simp; omega
    have HV : Hid (b = true) := by show _ = _; rw [← hb.out]; unfold digC; simp; omega
    clear c1 c2
    go_enter Tryz.func38, Tryz.ntmps38
    go_wp2
    go_ret
    exact ⟨ret_bool HV.out.symm, rfl⟩
  · obtain ⟨c1, c2⟩ := hc
    have d48 : decide (48 ≤ (n : Int)) = true := by simp; omega
    have d57 : decide ((n : Int) ≤ 57) = false := by simp; omega
    have HV : Hid (b = false) := by show _ = _; rw [← hb.out]; unfold digC; simp; omega
    clear c1 c2
    go_enter Tryz.func38, Tryz.ntmps38
    go_wp2
    go_ret
    exact ⟨ret_bool HV.out.symm, rfl⟩

set_option maxHeartbeats 1600000 in
theorem rname1_is (s : ByteArray) (hs : s.size ≤ 140737488355328) (w : World) {b : Bool} (hb : Hid (nameB s = b)) :
    Calls Tryz.prog 20 #[.string s] w fun e w' => e = .returned (.bool b) ∧ w = w' := by
  have hs2 : (s.size : Int) ≤ 140737488355328 := by omega
  by_cases h1 : (s.size : Int) < 1
  · have HV : Hid (b = false) := by show _ = _; rw [← hb.out]; exact name_short (.inl (by omega))
    go_enter Tryz.func20, Tryz.ntmps20
    go_wp2
    go_ret
    exact ⟨ret_bool HV.out.symm, rfl⟩
  by_cases h2 : 60 < (s.size : Int)
  · have HV : Hid (b = false) := by show _ = _; rw [← hb.out]; exact name_short (.inr (by omega))
    go_enter Tryz.func20, Tryz.ntmps20
    go_wp2
    go_ret
    exact ⟨ret_bool HV.out.symm, rfl⟩
  go_enter Tryz.func20, Tryz.ntmps20
  go_wp2
  go_loopw [3] (fun iv wr => ∃ k : Nat, k ≤ s.size ∧ iv = .int .i64 k ∧ w = wr ∧ Hid (∀ j (h : j < s.size), j < k → okC s[j].toNat = true)) (fun iv _ => s.size - (intOf iv).toNat)
  case atStart => exact ⟨0, Nat.zero_le _, rfl, rfl, fun j _ h => absurd h (by omega)⟩
  case round =>
    obtain ⟨k, hk, rfl, rfl, hinv⟩ := hrel
    by_cases hlt : k < s.size
    · rcases byte_cases s[k].toNat s[k].toNat_lt with ⟨hok, hc⟩ | ⟨hok, hc⟩
      · have HI : Hid (∀ j (h : j < s.size), j < k + 1 → okC s[j].toNat = true) := fun j hj hlt => by
          by_cases e : j = k
          · subst e; exact hok
          · exact hinv.out j hj (by omega)
        clear hok
        rcases hc with hc | hc | hc | hc | hc | hc
        · obtain ⟨c1, c2⟩ := hc
          have d97 : decide (97 ≤ (s[k].toNat : Int)) = true := by simp; omega
          have d65 : decide (65 ≤ (s[k].toNat : Int)) = true := by simp; omega
          have d48 : decide (48 ≤ (s[k].toNat : Int)) = true := by simp; omega
          have d122 : decide ((s[k].toNat : Int) ≤ 122) = true := by simp; omega
          have d90 : decide ((s[k].toNat : Int) ≤ 90) = false := by simp; omega
          have d57 : decide ((s[k].toNat : Int) ≤ 57) = false := by simp; omega
          have m45 : ((s[k].toNat : Int) == 45) = false := by simp; omega
          have n45 : ((s[k].toNat : Int) != 45) = true := by simp; omega
          have m95 : ((s[k].toNat : Int) == 95) = false := by simp; omega
          have n95 : ((s[k].toNat : Int) != 95) = true := by simp; omega
          have m46 : ((s[k].toNat : Int) == 46) = false := by simp; omega
          have n46 : ((s[k].toNat : Int) != 46) = true := by simp; omega
          have HDG : Hid (digC s[k].toNat = false) := by show _ = _; unfold digC; simp; omega
          clear c1 c2
          go_wp2_with (go_at_call 38; refine (rdigit_is _ s[k].toNat_lt _ HDG).mono ?_; rintro e w1 ⟨rfl, rfl⟩)
          go_roundw
          case rel => exact ⟨k + 1, by omega, by go_num, by first | rfl | trivial, HI⟩
          case measure => simp [intOf]; omega
        · obtain ⟨c1, c2⟩ := hc
          have d97 : decide (97 ≤ (s[k].toNat : Int)) = false := by simp; omega
          have d65 : decide (65 ≤ (s[k].toNat : Int)) = true := by simp; omega
          have d48 : decide (48 ≤ (s[k].toNat : Int)) = true := by simp; omega
          have d122 : decide ((s[k].toNat : Int) ≤ 122) = true := by simp; omega
          have d90 : decide ((s[k].toNat : Int) ≤ 90) = true := by simp; omega
          have d57 : decide ((s[k].toNat : Int) ≤ 57) = false := by simp; omega
          have m45 : ((s[k].toNat : Int) == 45) = false := by simp; omega
          have n45 : ((s[k].toNat : Int) != 45) = true := by simp; omega
          have m95 : ((s[k].toNat : Int) == 95) = false := by simp; omega
          have n95 : ((s[k].toNat : Int) != 95) = true := by simp; omega
          have m46 : ((s[k].toNat : Int) == 46) = false := by simp; omega
          have n46 : ((s[k].toNat : Int) != 46) = true := by simp; omega
          have HDG : Hid (digC s[k].toNat = false) := by show _ = _; unfold digC; simp; omega
          clear c1 c2
          go_wp2_with (go_at_call 38; refine (rdigit_is _ s[k].toNat_lt _ HDG).mono ?_; rintro e w1 ⟨rfl, rfl⟩)
          go_roundw
          case rel => exact ⟨k + 1, by omega, by go_num, by first | rfl | trivial, HI⟩
          case measure => simp [intOf]; omega
        · obtain ⟨c1, c2⟩ := hc
          have d97 : decide (97 ≤ (s[k].toNat : Int)) = false := by simp; omega
          have d65 : decide (65 ≤ (s[k].toNat : Int)) = false := by simp; omega
          have d48 : decide (48 ≤ (s[k].toNat : Int)) = true := by simp; omega
          have d122 : decide ((s[k].toNat : Int) ≤ 122) = true := by simp; omega
          have d90 : decide ((s[k].toNat : Int) ≤ 90) = true := by simp; omega
          have d57 : decide ((s[k].toNat : Int) ≤ 57) = true := by simp; omega
          have m45 : ((s[k].toNat : Int) == 45) = false := by simp; omega
          have n45 : ((s[k].toNat : Int) != 45) = true := by simp; omega
          have m95 : ((s[k].toNat : Int) == 95) = false := by simp; omega
          have n95 : ((s[k].toNat : Int) != 95) = true := by simp; omega
          have m46 : ((s[k].toNat : Int) == 46) = false := by simp; omega
          have n46 : ((s[k].toNat : Int) != 46) = true := by simp; omega
          have HDG : Hid (digC s[k].toNat = true) := by show _ = _; unfold digC; simp; omega
          clear c1 c2
          go_wp2_with (go_at_call 38; refine (rdigit_is _ s[k].toNat_lt _ HDG).mono ?_; rintro e w1 ⟨rfl, rfl⟩)
          go_roundw
          case rel => exact ⟨k + 1, by omega, by go_num, by first | rfl | trivial, HI⟩
          case measure => simp [intOf]; omega
        · obtain ⟨c1, c2⟩ := hc
          have d97 : decide (97 ≤ (s[k].toNat : Int)) = false := by simp; omega
          have d65 : decide (65 ≤ (s[k].toNat : Int)) = false := by simp; omega
          have d48 : decide (48 ≤ (s[k].toNat : Int)) = false := by simp; omega
          have d122 : decide ((s[k].toNat : Int) ≤ 122) = true := by simp; omega
          have d90 : decide ((s[k].toNat : Int) ≤ 90) = true := by simp; omega
          have d57 : decide ((s[k].toNat : Int) ≤ 57) = true := by simp; omega
          have m45 : ((s[k].toNat : Int) == 45) = true := by simp; omega
          have n45 : ((s[k].toNat : Int) != 45) = false := by simp; omega
          have m95 : ((s[k].toNat : Int) == 95) = false := by simp; omega
          have n95 : ((s[k].toNat : Int) != 95) = true := by simp; omega
          have m46 : ((s[k].toNat : Int) == 46) = false := by simp; omega
          have n46 : ((s[k].toNat : Int) != 46) = true := by simp; omega
          have HDG : Hid (digC s[k].toNat = false) := by show _ = _; unfold digC; simp; omega
          clear c1 c2
          go_wp2_with (go_at_call 38; refine (rdigit_is _ s[k].toNat_lt _ HDG).mono ?_; rintro e w1 ⟨rfl, rfl⟩)
          go_roundw
          case rel => exact ⟨k + 1, by omega, by go_num, by first | rfl | trivial, HI⟩
          case measure => simp [intOf]; omega
        · obtain ⟨c1, c2⟩ := hc
          have d97 : decide (97 ≤ (s[k].toNat : Int)) = false := by simp; omega
          have d65 : decide (65 ≤ (s[k].toNat : Int)) = true := by simp; omega
          have d48 : decide (48 ≤ (s[k].toNat : Int)) = true := by simp; omega
          have d122 : decide ((s[k].toNat : Int) ≤ 122) = true := by simp; omega
          have d90 : decide ((s[k].toNat : Int) ≤ 90) = false := by simp; omega
          have d57 : decide ((s[k].toNat : Int) ≤ 57) = false := by simp; omega
          have m45 : ((s[k].toNat : Int) == 45) = false := by simp; omega
          have n45 : ((s[k].toNat : Int) != 45) = true := by simp; omega
          have m95 : ((s[k].toNat : Int) == 95) = true := by simp; omega
          have n95 : ((s[k].toNat : Int) != 95) = false := by simp; omega
          have m46 : ((s[k].toNat : Int) == 46) = false := by simp; omega
          have n46 : ((s[k].toNat : Int) != 46) = true := by simp; omega
          have HDG : Hid (digC s[k].toNat = false) := by show _ = _; unfold digC; simp; omega
          clear c1 c2
          go_wp2_with (go_at_call 38; refine (rdigit_is _ s[k].toNat_lt _ HDG).mono ?_; rintro e w1 ⟨rfl, rfl⟩)
          go_roundw
          case rel => exact ⟨k + 1, by omega, by go_num, by first | rfl | trivial, HI⟩
          case measure => simp [intOf]; omega
        · obtain ⟨c1, c2⟩ := hc
          have d97 : decide (97 ≤ (s[k].toNat : Int)) = false := by simp; omega
          have d65 : decide (65 ≤ (s[k].toNat : Int)) = false := by simp; omega
          have d48 : decide (48 ≤ (s[k].toNat : Int)) = false := by simp; omega
          have d122 : decide ((s[k].toNat : Int) ≤ 122) = true := by simp; omega
          have d90 : decide ((s[k].toNat : Int) ≤ 90) = true := by simp; omega
          have d57 : decide ((s[k].toNat : Int) ≤ 57) = true := by simp; omega
          have m45 : ((s[k].toNat : Int) == 45) = false := by simp; omega
          have n45 : ((s[k].toNat : Int) != 45) = true := by simp; omega
          have m95 : ((s[k].toNat : Int) == 95) = false := by simp; omega
          have n95 : ((s[k].toNat : Int) != 95) = true := by simp; omega
          have m46 : ((s[k].toNat : Int) == 46) = true := by simp; omega
          have n46 : ((s[k].toNat : Int) != 46) = false := by simp; omega
          have HDG : Hid (digC s[k].toNat = false) := by show _ = _; unfold digC; simp; omega
          clear c1 c2
          go_wp2_with (go_at_call 38; refine (rdigit_is _ s[k].toNat_lt _ HDG).mono ?_; rintro e w1 ⟨rfl, rfl⟩)
          go_roundw
          case rel => exact ⟨k + 1, by omega, by go_num, by first | rfl | trivial, HI⟩
          case measure => simp [intOf]; omega
      · have HV : Hid (b = false) := by show _ = _; rw [← hb.out]; exact name_bad hlt hok
        clear hok
        rcases hc with hc | hc | hc | hc | hc | hc
        · obtain ⟨c1, c2⟩ := hc
          have d97 : decide (97 ≤ (s[k].toNat : Int)) = false := by simp; omega
          have d65 : decide (65 ≤ (s[k].toNat : Int)) = false := by simp; omega
          have d48 : decide (48 ≤ (s[k].toNat : Int)) = false := by simp; omega
          have d122 : decide ((s[k].toNat : Int) ≤ 122) = true := by simp; omega
          have d90 : decide ((s[k].toNat : Int) ≤ 90) = true := by simp; omega
          have d57 : decide ((s[k].toNat : Int) ≤ 57) = true := by simp; omega
          have m45 : ((s[k].toNat : Int) == 45) = false := by simp; omega
          have n45 : ((s[k].toNat : Int) != 45) = true := by simp; omega
          have m95 : ((s[k].toNat : Int) == 95) = false := by simp; omega
          have n95 : ((s[k].toNat : Int) != 95) = true := by simp; omega
          have m46 : ((s[k].toNat : Int) == 46) = false := by simp; omega
          have n46 : ((s[k].toNat : Int) != 46) = true := by simp; omega
          have HDG : Hid (digC s[k].toNat = false) := by show _ = _; unfold digC; simp; omega
          clear c1 c2
          go_wp2_with (go_at_call 38; refine (rdigit_is _ s[k].toNat_lt _ HDG).mono ?_; rintro e w1 ⟨rfl, rfl⟩)
          go_ret
          exact ⟨ret_bool HV.out.symm, rfl⟩
        · obtain ⟨c1, c2⟩ := hc
          have d97 : decide (97 ≤ (s[k].toNat : Int)) = false := by simp; omega
          have d65 : decide (65 ≤ (s[k].toNat : Int)) = false := by simp; omega
          have d48 : decide (48 ≤ (s[k].toNat : Int)) = false := by simp; omega
          have d122 : decide ((s[k].toNat : Int) ≤ 122) = true := by simp; omega
          have d90 : decide ((s[k].toNat : Int) ≤ 90) = true := by simp; omega
          have d57 : decide ((s[k].toNat : Int) ≤ 57) = true := by simp; omega
          have m45 : ((s[k].toNat : Int) == 45) = false := by simp; omega
          have n45 : ((s[k].toNat : Int) != 45) = true := by simp; omega
          have m95 : ((s[k].toNat : Int) == 95) = false := by simp; omega
          have n95 : ((s[k].toNat : Int) != 95) = true := by simp; omega
          have m46 : ((s[k].toNat : Int) == 46) = false := by simp; omega
          have n46 : ((s[k].toNat : Int) != 46) = true := by simp; omega
          have HDG : Hid (digC s[k].toNat = false) := by show _ = _; unfold digC; simp; omega
          clear c1 c2
          go_wp2_with (go_at_call 38; refine (rdigit_is _ s[k].toNat_lt _ HDG).mono ?_; rintro e w1 ⟨rfl, rfl⟩)
          go_ret
          exact ⟨ret_bool HV.out.symm, rfl⟩
        · obtain ⟨c1, c2⟩ := hc
          have d97 : decide (97 ≤ (s[k].toNat : Int)) = false := by simp; omega
          have d65 : decide (65 ≤ (s[k].toNat : Int)) = false := by simp; omega
          have d48 : decide (48 ≤ (s[k].toNat : Int)) = true := by simp; omega
          have d122 : decide ((s[k].toNat : Int) ≤ 122) = true := by simp; omega
          have d90 : decide ((s[k].toNat : Int) ≤ 90) = true := by simp; omega
          have d57 : decide ((s[k].toNat : Int) ≤ 57) = false := by simp; omega
          have m45 : ((s[k].toNat : Int) == 45) = false := by simp; omega
          have n45 : ((s[k].toNat : Int) != 45) = true := by simp; omega
          have m95 : ((s[k].toNat : Int) == 95) = false := by simp; omega
          have n95 : ((s[k].toNat : Int) != 95) = true := by simp; omega
          have m46 : ((s[k].toNat : Int) == 46) = false := by simp; omega
          have n46 : ((s[k].toNat : Int) != 46) = true := by simp; omega
          have HDG : Hid (digC s[k].toNat = false) := by show _ = _; unfold digC; simp; omega
          clear c1 c2
          go_wp2_with (go_at_call 38; refine (rdigit_is _ s[k].toNat_lt _ HDG).mono ?_; rintro e w1 ⟨rfl, rfl⟩)
          go_ret
          exact ⟨ret_bool HV.out.symm, rfl⟩
        · obtain ⟨c1, c2⟩ := hc
          have d97 : decide (97 ≤ (s[k].toNat : Int)) = false := by simp; omega
          have d65 : decide (65 ≤ (s[k].toNat : Int)) = true := by simp; omega
          have d48 : decide (48 ≤ (s[k].toNat : Int)) = true := by simp; omega
          have d122 : decide ((s[k].toNat : Int) ≤ 122) = true := by simp; omega
          have d90 : decide ((s[k].toNat : Int) ≤ 90) = false := by simp; omega
          have d57 : decide ((s[k].toNat : Int) ≤ 57) = false := by simp; omega
          have m45 : ((s[k].toNat : Int) == 45) = false := by simp; omega
          have n45 : ((s[k].toNat : Int) != 45) = true := by simp; omega
          have m95 : ((s[k].toNat : Int) == 95) = false := by simp; omega
          have n95 : ((s[k].toNat : Int) != 95) = true := by simp; omega
          have m46 : ((s[k].toNat : Int) == 46) = false := by simp; omega
          have n46 : ((s[k].toNat : Int) != 46) = true := by simp; omega
          have HDG : Hid (digC s[k].toNat = false) := by show _ = _; unfold digC; simp; omega
          clear c1 c2
          go_wp2_with (go_at_call 38; refine (rdigit_is _ s[k].toNat_lt _ HDG).mono ?_; rintro e w1 ⟨rfl, rfl⟩)
          go_ret
          exact ⟨ret_bool HV.out.symm, rfl⟩
        · obtain ⟨c1, c2⟩ := hc
          have d97 : decide (97 ≤ (s[k].toNat : Int)) = false := by simp; omega
          have d65 : decide (65 ≤ (s[k].toNat : Int)) = true := by simp; omega
          have d48 : decide (48 ≤ (s[k].toNat : Int)) = true := by simp; omega
          have d122 : decide ((s[k].toNat : Int) ≤ 122) = true := by simp; omega
          have d90 : decide ((s[k].toNat : Int) ≤ 90) = false := by simp; omega
          have d57 : decide ((s[k].toNat : Int) ≤ 57) = false := by simp; omega
          have m45 : ((s[k].toNat : Int) == 45) = false := by simp; omega
          have n45 : ((s[k].toNat : Int) != 45) = true := by simp; omega
          have m95 : ((s[k].toNat : Int) == 95) = false := by simp; omega
          have n95 : ((s[k].toNat : Int) != 95) = true := by simp; omega
          have m46 : ((s[k].toNat : Int) == 46) = false := by simp; omega
          have n46 : ((s[k].toNat : Int) != 46) = true := by simp; omega
          have HDG : Hid (digC s[k].toNat = false) := by show _ = _; unfold digC; simp; omega
          clear c1 c2
          go_wp2_with (go_at_call 38; refine (rdigit_is _ s[k].toNat_lt _ HDG).mono ?_; rintro e w1 ⟨rfl, rfl⟩)
          go_ret
          exact ⟨ret_bool HV.out.symm, rfl⟩
        · obtain ⟨c1, c2⟩ := hc
          have d97 : decide (97 ≤ (s[k].toNat : Int)) = true := by simp; omega
          have d65 : decide (65 ≤ (s[k].toNat : Int)) = true := by simp; omega
          have d48 : decide (48 ≤ (s[k].toNat : Int)) = true := by simp; omega
          have d122 : decide ((s[k].toNat : Int) ≤ 122) = false := by simp; omega
          have d90 : decide ((s[k].toNat : Int) ≤ 90) = false := by simp; omega
          have d57 : decide ((s[k].toNat : Int) ≤ 57) = false := by simp; omega
          have m45 : ((s[k].toNat : Int) == 45) = false := by simp; omega
          have n45 : ((s[k].toNat : Int) != 45) = true := by simp; omega
          have m95 : ((s[k].toNat : Int) == 95) = false := by simp; omega
          have n95 : ((s[k].toNat : Int) != 95) = true := by simp; omega
          have m46 : ((s[k].toNat : Int) == 46) = false := by simp; omega
          have n46 : ((s[k].toNat : Int) != 46) = true := by simp; omega
          have HDG : Hid (digC s[k].toNat = false) := by show _ = _; unfold digC; simp; omega
          clear c1 c2
          go_wp2_with (go_at_call 38; refine (rdigit_is _ s[k].toNat_lt _ HDG).mono ?_; rintro e w1 ⟨rfl, rfl⟩)
          go_ret
          exact ⟨ret_bool HV.out.symm, rfl⟩
    · have HV : Hid (b = true) := by show _ = _; rw [← hb.out]; exact name_good (by omega) (by omega) (fun j hj => hinv.out j hj (by omega))
      go_wp2
      go_ret
      exact ⟨ret_bool HV.out.symm, rfl⟩

end Go.Proofs.YtbacoopopokkfaaGreatDoor
