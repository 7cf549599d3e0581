/- The contracts of IsLetter, IsDigit, IsNameByte, and IsName. -/
import Derived.Test.YtbacoopopokkfaaGreatDoorTAct
namespace Go.Proofs.YtbacoopopokkfaaGreatDoor
open Go.RowKit
set_option linter.unusedSimpArgs false
set_option linter.unusedVariables false

def letC (c : Nat) : Bool := (decide (97 ≤ c) && decide (c ≤ 122)) || (decide (65 ≤ c) && decide (c ≤ 90))
def digC (c : Nat) : Bool := decide (48 ≤ c) && decide (c ≤ 57)
theorem byte_cases (n : Nat) (h : n < 256) : (okC n = true ∧ ((97 ≤ (n : Int) ∧ (n : Int) ≤ 122) ∨ (65 ≤ (n : Int) ∧ (n : Int) ≤ 90) ∨ (48 ≤ (n : Int) ∧ (n : Int) ≤ 57) ∨ (45 ≤ (n : Int) ∧ (n : Int) ≤ 45) ∨ (95 ≤ (n : Int) ∧ (n : Int) ≤ 95) ∨ (46 ≤ (n : Int) ∧ (n : Int) ≤ 46))) ∨
    (okC n = false ∧ ((0 ≤ (n : Int) ∧ (n : Int) ≤ 44) ∨ (47 ≤ (n : Int) ∧ (n : Int) ≤ 47) ∨ (58 ≤ (n : Int) ∧ (n : Int) ≤ 64) ∨ (91 ≤ (n : Int) ∧ (n : Int) ≤ 94) ∨ (96 ≤ (n : Int) ∧ (n : Int) ≤ 96) ∨ (123 ≤ (n : Int) ∧ (n : Int) ≤ 255))) := by
  by_cases ho : okC n = true
  · refine .inl ⟨ho, ?_⟩
    unfold okC at ho
    simp only [Bool.or_eq_true, Bool.and_eq_true, decide_eq_true_eq] at ho
    omega
  · refine .inr ⟨by simpa using ho, ?_⟩
    unfold okC at ho
    simp only [Bool.or_eq_true, Bool.and_eq_true, decide_eq_true_eq] at ho
    omega

theorem okC_parts (c : Nat) : okC c = (letC c || digC c || decide (c = 45) || decide (c = 95) || decide (c = 46)) := rfl

set_option maxHeartbeats 1600000 in
theorem letter_is (n : Nat) (hn : n < 256) (w : World) {b : Bool} (hb : Hid (letC n = b)) :
    Calls Tryz.prog 52 #[.int .u8 (n : Int)] w fun e w' => e = .returned (.bool b) ∧ w = w' := by
  rcases (show (0 ≤ (n : Int) ∧ (n : Int) ≤ 64) ∨ (65 ≤ (n : Int) ∧ (n : Int) ≤ 90) ∨ (91 ≤ (n : Int) ∧ (n : Int) ≤ 96) ∨ (97 ≤ (n : Int) ∧ (n : Int) ≤ 122) ∨ (123 ≤ (n : Int) ∧ (n : Int) ≤ 255) by omega) with hc | hc | hc | hc | hc
  · obtain ⟨c1, c2⟩ := hc
    have d97 : decide (97 ≤ (n : Int)) = false := by simp; omega
    have d122 : decide ((n : Int) ≤ 122) = true := by simp; omega
    have d65 : decide (65 ≤ (n : Int)) = false := by simp; omega
    have d90 : decide ((n : Int) ≤ 90) = true := by simp; omega
    have HV : Hid (b = false) := by show _ = _; rw [← hb.out]; unfold letC; simp; omega
    clear c1 c2
    go_enter Tryz.func52, Tryz.ntmps52
    go_wp2
    go_ret
    exact ⟨ret_bool HV.out.symm, rfl⟩
  · obtain ⟨c1, c2⟩ := hc
    have d97 : decide (97 ≤ (n : Int)) = false := by simp; omega
    have d122 : decide ((n : Int) ≤ 122) = true := by simp; omega
    have d65 : decide (65 ≤ (n : Int)) = true := by simp; omega
    have d90 : decide ((n : Int) ≤ 90) = true := by simp; omega
    have HV : Hid (b = true) := by show _ = _; rw [← hb.out]; unfold letC; simp; omega
    clear c1 c2
    go_enter Tryz.func52, Tryz.ntmps52
    go_wp2
    go_ret
    exact ⟨ret_bool HV.out.symm, rfl⟩
  · obtain ⟨c1, c2⟩ := hc
    have d97 : decide (97 ≤ (n : Int)) = false := by simp; omega
    have d122 : decide ((n : Int) ≤ 122) = true := by simp; omega
    have d65 : decide (65 ≤ (n : Int)) = true := by simp; omega
    have d90 : decide ((n : Int) ≤ 90) = false := by simp; omega
    have HV : Hid (b = false) := by show _ = _; rw [← hb.out]; unfold letC; simp; omega
    clear c1 c2
    go_enter Tryz.func52, Tryz.ntmps52
    go_wp2
    go_ret
    exact ⟨ret_bool HV.out.symm, rfl⟩
  · obtain ⟨c1, c2⟩ := hc
    have d97 : decide (97 ≤ (n : Int)) = true := by simp; omega
    have d122 : decide ((n : Int) ≤ 122) = true := by simp; omega
    have d65 : decide (65 ≤ (n : Int)) = true := by simp; omega
    have d90 : decide ((n : Int) ≤ 90) = false := by simp; omega
    have HV : Hid (b = true) := by show _ = _; rw [← hb.out]; unfold letC; simp; omega
    clear c1 c2
    go_enter Tryz.func52, Tryz.ntmps52
    go_wp2
    go_ret
    exact ⟨ret_bool HV.out.symm, rfl⟩
  · obtain ⟨c1, c2⟩ := hc
    have d97 : decide (97 ≤ (n : Int)) = true := by simp; omega
    have d122 : decide ((n : Int) ≤ 122) = false := by simp; omega
    have d65 : decide (65 ≤ (n : Int)) = true := by simp; omega
    have d90 : decide ((n : Int) ≤ 90) = false := by simp; omega
    have HV : Hid (b = false) := by show _ = _; rw [← hb.out]; unfold letC; simp; omega
    clear c1 c2
    go_enter Tryz.func52, Tryz.ntmps52
    go_wp2
    go_ret
    exact ⟨ret_bool HV.out.symm, rfl⟩

set_option maxHeartbeats 1600000 in
theorem digit_is (n : Nat) (hn : n < 256) (w : World) {b : Bool} (hb : Hid (digC n = b)) :
    Calls Tryz.prog 53 #[.int .u8 (n : Int)] w fun e w' => e = .returned (.bool b) ∧ w = w' := by
  rcases (show (0 ≤ (n : Int) ∧ (n : Int) ≤ 47) ∨ (48 ≤ (n : Int) ∧ (n : Int) ≤ 57) ∨ (58 ≤ (n : Int) ∧ (n : Int) ≤ 255) by omega) with hc | hc | hc
  · obtain ⟨c1, c2⟩ := hc
    have d48 : decide (48 ≤ (n : Int)) = false := by simp; omega
    have d57 : decide ((n : Int) ≤ 57) = true := by simp; omega
    have HV : Hid (b = false) := by show _ = _; rw [← hb.out]; unfold digC; simp; omega
    clear c1 c2
    go_enter Tryz.func53, Tryz.ntmps53
    go_wp2
    go_ret
    exact ⟨ret_bool HV.out.symm, rfl⟩
  · obtain ⟨c1, c2⟩ := hc
    have d48 : decide (48 ≤ (n : Int)) = true := by simp; omega
    have d57 : decide ((n : Int) ≤ 57) = true := by simp; omega
    have HV : Hid (b = true) := by show _ = _; rw [← hb.out]; unfold digC; simp; omega
    clear c1 c2
    go_enter Tryz.func53, Tryz.ntmps53
    go_wp2
    go_ret
    exact ⟨ret_bool HV.out.symm, rfl⟩
  · obtain ⟨c1, c2⟩ := hc
    have d48 : decide (48 ≤ (n : Int)) = true := by simp; omega
    have d57 : decide ((n : Int) ≤ 57) = false := by simp; omega
    have HV : Hid (b = false) := by show _ = _; rw [← hb.out]; unfold digC; simp; omega
    clear c1 c2
    go_enter Tryz.func53, Tryz.ntmps53
    go_wp2
    go_ret
    exact ⟨ret_bool HV.out.symm, rfl⟩

set_option maxHeartbeats 1600000 in
theorem nameByte_is (n : Nat) (hn : n < 256) (w : World) {b : Bool} (hb : Hid (okC n = b)) :
    Calls Tryz.prog 37 #[.int .u8 (n : Int)] w fun e w' => e = .returned (.bool b) ∧ w = w' := by
  obtain ⟨L, hL⟩ : ∃ L, letC n = L := ⟨_, rfl⟩
  obtain ⟨D, hD⟩ : ∃ D, digC n = D := ⟨_, rfl⟩
  have hb2 := hb.out
  rw [okC_parts, hL, hD] at hb2
  have HL := Lib.hid hL; have HD := Lib.hid hD
  clear hL hD hb
  cases L with
  | true =>
    have HV : Hid (b = true) := by show _ = _; rw [← hb2]; simp
    clear hb2
    go_enter Tryz.func37, Tryz.ntmps37
    go_wp2_with (first | (go_at_call 52; refine (letter_is _ hn _ HL).mono ?_; rintro e w1 ⟨rfl, rfl⟩) | (go_at_call 53; refine (digit_is _ hn _ HD).mono ?_; rintro e w1 ⟨rfl, rfl⟩))
    go_ret
    exact ⟨ret_bool HV.out.symm, rfl⟩
  | false =>
    cases D with
    | true =>
      have HV : Hid (b = true) := by show _ = _; rw [← hb2]; simp
      clear hb2
      go_enter Tryz.func37, Tryz.ntmps37
      go_wp2_with (first | (go_at_call 52; refine (letter_is _ hn _ HL).mono ?_; rintro e w1 ⟨rfl, rfl⟩) | (go_at_call 53; refine (digit_is _ hn _ HD).mono ?_; rintro e w1 ⟨rfl, rfl⟩))
      go_ret
      exact ⟨ret_bool HV.out.symm, rfl⟩
    | false =>
      by_cases e1 : n = 45
      · have m45 : ((n : Int) == 45) = true := by simp; omega
        have m95 : ((n : Int) == 95) = false := by simp; omega
        have m46 : ((n : Int) == 46) = false := by simp; omega
        have HV : Hid (b = true) := by show _ = _; rw [← hb2]; simp; try omega
        clear hb2
        clear e1
        go_enter Tryz.func37, Tryz.ntmps37
        go_wp2_with (first | (go_at_call 52; refine (letter_is _ hn _ HL).mono ?_; rintro e w1 ⟨rfl, rfl⟩) | (go_at_call 53; refine (digit_is _ hn _ HD).mono ?_; rintro e w1 ⟨rfl, rfl⟩))
        go_ret
        exact ⟨ret_bool HV.out.symm, rfl⟩
      · by_cases e2 : n = 95
        · have m45 : ((n : Int) == 45) = false := by simp; omega
          have m95 : ((n : Int) == 95) = true := by simp; omega
          have m46 : ((n : Int) == 46) = false := by simp; omega
          have HV : Hid (b = true) := by show _ = _; rw [← hb2]; simp; try omega
          clear hb2
          clear e1 e2
          go_enter Tryz.func37, Tryz.ntmps37
          go_wp2_with (first | (go_at_call 52; refine (letter_is _ hn _ HL).mono ?_; rintro e w1 ⟨rfl, rfl⟩) | (go_at_call 53; refine (digit_is _ hn _ HD).mono ?_; rintro e w1 ⟨rfl, rfl⟩))
          go_ret
          exact ⟨ret_bool HV.out.symm, rfl⟩
        · by_cases e3 : n = 46
          · have m45 : ((n : Int) == 45) = false := by simp; omega
            have m95 : ((n : Int) == 95) = false := by simp; omega
            have m46 : ((n : Int) == 46) = true := by simp; omega
            have HV : Hid (b = true) := by show _ = _; rw [← hb2]; simp; try omega
            clear hb2
            clear e1 e2 e3
            go_enter Tryz.func37, Tryz.ntmps37
            go_wp2_with (first | (go_at_call 52; refine (letter_is _ hn _ HL).mono ?_; rintro e w1 ⟨rfl, rfl⟩) | (go_at_call 53; refine (digit_is _ hn _ HD).mono ?_; rintro e w1 ⟨rfl, rfl⟩))
            go_ret
            exact ⟨ret_bool HV.out.symm, rfl⟩
          · have m45 : ((n : Int) == 45) = false := by simp; omega
            have m95 : ((n : Int) == 95) = false := by simp; omega
            have m46 : ((n : Int) == 46) = false := by simp; omega
            have HV : Hid (b = false) := by show _ = _; rw [← hb2]; simp; try omega
            clear hb2
            clear e1 e2 e3
            go_enter Tryz.func37, Tryz.ntmps37
            go_wp2_with (first | (go_at_call 52; refine (letter_is _ hn _ HL).mono ?_; rintro e w1 ⟨rfl, rfl⟩) | (go_at_call 53; refine (digit_is _ hn _ HD).mono ?_; rintro e w1 ⟨rfl, rfl⟩))
            go_ret
            exact ⟨ret_bool HV.out.symm, rfl⟩

set_option maxHeartbeats 1600000 in
theorem isName_is (s : ByteArray) (hs : s.size ≤ 140737488355328) (w : World) {b : Bool} (hb : Hid (nameB s = b)) :
    Calls Tryz.prog 19 #[.string s] w fun e w' => e = .returned (.bool b) ∧ w = w' := by
  have hs2 : (s.size : Int) ≤ 140737488355328 := by omega
  by_cases h1 : (s.size : Int) < 1
  · have HV : Hid (b = false) := by show _ = _; rw [← hb.out]; exact name_short (.inl (by omega))
    go_enter Tryz.func19, Tryz.ntmps19
    go_wp2
    go_ret
    exact ⟨ret_bool HV.out.symm, rfl⟩
  by_cases h2 : 60 < (s.size : Int)
  · have HV : Hid (b = false) := by show _ = _; rw [← hb.out]; exact name_short (.inr (by omega))
    go_enter Tryz.func19, Tryz.ntmps19
    go_wp2
    go_ret
    exact ⟨ret_bool HV.out.symm, rfl⟩
  go_enter Tryz.func19, Tryz.ntmps19
  go_wp2
  go_loopw [14] (fun iv wr => ∃ k : Nat, k ≤ s.size ∧ iv = .int .i64 k ∧ w = wr ∧ Hid (∀ j (h : j < s.size), j < k → okC s[j].toNat = true)) (fun iv _ => s.size - (intOf iv).toNat)
  case atStart => exact ⟨0, Nat.zero_le _, rfl, rfl, fun j _ h => absurd h (by omega)⟩
  case round =>
    obtain ⟨k, hk, rfl, rfl, hinv⟩ := hrel
    by_cases hlt : k < s.size
    · have hn : s[k].toNat < 256 := s[k].toNat_lt
      obtain ⟨B, hB⟩ : ∃ B, okC s[k].toNat = B := ⟨_, rfl⟩
      cases B with
      | true =>
        have HI : Hid (∀ j (h : j < s.size), j < k + 1 → okC s[j].toNat = true) := fun j hj hlt => by
          by_cases e : j = k
          · subst e; exact hB
          · exact hinv.out j hj (by omega)
        have HB := Lib.hid hB
        clear hB hinv
        go_wp2_with (go_at_call 37; refine (nameByte_is _ hn _ HB).mono ?_; rintro e w1 ⟨rfl, rfl⟩)
        go_roundw
        case rel => exact ⟨k + 1, by omega, by go_num, by first | rfl | trivial, HI⟩
        case measure => simp [intOf]; omega
      | false =>
        have HV : Hid (b = false) := by show _ = _; rw [← hb.out]; exact name_bad hlt hB
        have HB := Lib.hid hB
        clear hB hinv
        go_wp2_with (go_at_call 37; refine (nameByte_is _ hn _ HB).mono ?_; rintro e w1 ⟨rfl, rfl⟩)
        go_ret
        exact ⟨ret_bool HV.out.symm, rfl⟩
    · have HV : Hid (b = true) := by show _ = _; rw [← hb.out]; exact name_good (by omega) (by omega) (fun j hj => hinv.out j hj (by omega))
      go_wp2
      go_ret
      exact ⟨ret_bool HV.out.symm, rfl⟩

end Go.Proofs.YtbacoopopokkfaaGreatDoor
