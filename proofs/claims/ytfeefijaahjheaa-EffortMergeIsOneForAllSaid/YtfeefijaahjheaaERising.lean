/- The contract of checkRising. -/
import Derived.Test.YtfeefijaahjheaaEChk
namespace Go.Proofs.Ytfeefijaahjheaa
open Go.RowKit
set_option linter.unusedSimpArgs false
set_option linter.unusedVariables false

set_option maxHeartbeats 1600000 in
theorem checkRising_any (ao : Option Addr) (cap : Nat) (l : List Int) (lo hi : Int) (hl : (l.length : Int) ≤ 1000000) (w : World) (hs : IntsAt w ao l) {E : Int} (hE : Hid (risingE lo hi none l = E)) :
    Calls Try.prog 59 #[.slice ao l.length cap, .int .i64 lo, .int .i64 hi] w fun e w' => e = .returned (.int .i64 E) ∧ w = w' := by
  have HS := Lib.hid hs; clear hs
  go_enter Try.func59, Try.ntmps59
  go_wp2
  go_loopw [11] (fun iv wr => ∃ k : Nat, k ≤ l.length ∧ iv = .int .i64 k ∧ w = wr ∧ Hid (risingE lo hi (prevI l k) (l.drop k) = E))
    (fun iv _ => l.length - (intOf iv).toNat)
  case atStart => exact ⟨0, Nat.zero_le _, rfl, rfl, hE.out⟩
  case round =>
    obtain ⟨k, hk, rfl, rfl, hw⟩ := hrel
    by_cases hlt : k < l.length
    · obtain ⟨b, off, rfl, hc⟩ := HS.out.at (by omega)
      have c0 := hc k hlt
      have HW : Hid (_ = E) := Lib.hid ((risingE_at (lo := lo) (hi := hi) (p := prevI l k) hlt).symm.trans hw.out)
      clear hw
      by_cases a1 : lo ≤ nthI l k ∧ nthI l k ≤ hi
      · by_cases a2 : soonI (prevI l k) (nthI l k) = true
        · have HE : Hid (E = 10) := by show _ = _; rw [← HW.out, if_pos a1, if_pos a2]
          have H1 := Lib.hid a1
          clear HW a1
          cases k with
          | zero => simp [prevI, soonI] at a2
          | succ m =>
            have c1 := hc m (by omega)
            have a3 : nthI l (m + 1) ≤ nthI l m := by simpa [prevI, soonI] using a2
            clear a2 hc
            generalize nthI l (m + 1) = x at *
            generalize nthI l m = y at *
            have em : ((m + 1 : Nat) : Int) - 1 = (m : Int) := by omega
            have rm : IntKind.i64.wrap (m : Int) = (m : Int) := IntWalk.i64_in _ (by omega)
            have hm : (m : Int) < (l.length : Int) := by omega
            have hm0 : (0 : Int) < ((m + 1 : Nat) : Int) := by omega
            go_wp2_with (go_at_call 51; refine (ewithin_yes _ _ _ H1.out _).mono ?_; rintro e w1 ⟨rfl, rfl⟩)
            go_ret
            exact ⟨ret_int HE.out.symm, rfl⟩
        · have HE : Hid (risingE lo hi (prevI l (k + 1)) (l.drop (k + 1)) = E) := by show _ = _; rw [← HW.out, if_pos a1, if_neg a2]
          have H1 := Lib.hid a1
          clear HW a1
          cases k with
          | zero =>
            simp only [Nat.add_zero] at c0
            clear a2 hc
            generalize nthI l 0 = x at *
            go_wp2_with (go_at_call 51; refine (ewithin_yes _ _ _ H1.out _).mono ?_; rintro e w1 ⟨rfl, rfl⟩)
            go_roundw
            case rel => exact ⟨1, by omega, by go_num, by first | rfl | trivial, HE⟩
            case measure => simp [intOf]; omega
          | succ m =>
            have c1 := hc m (by omega)
            have a3 : ¬ nthI l (m + 1) ≤ nthI l m := by simpa [prevI, soonI] using a2
            clear a2 hc
            generalize hx : nthI l (m + 1) = x at *
            generalize nthI l m = y at *
            have em : ((m + 1 : Nat) : Int) - 1 = (m : Int) := by omega
            have rm : IntKind.i64.wrap (m : Int) = (m : Int) := IntWalk.i64_in _ (by omega)
            have hm : (m : Int) < (l.length : Int) := by omega
            have hm0 : (0 : Int) < ((m + 1 : Nat) : Int) := by omega
            go_wp2_with (go_at_call 51; refine (ewithin_yes _ _ _ H1.out _).mono ?_; rintro e w1 ⟨rfl, rfl⟩)
            go_roundw
            case rel => exact ⟨m + 1 + 1, by omega, by go_num, by first | rfl | trivial, HE⟩
            case measure => simp [intOf]; omega
      · have HE : Hid (E = 9) := by show _ = _; rw [← HW.out, if_neg a1]
        have H1 := Lib.hid a1
        clear HW a1 hc
        generalize nthI l k = x at *
        go_wp2_with (go_at_call 51; refine (ewithin_no _ _ _ H1.out _).mono ?_; rintro e w1 ⟨rfl, rfl⟩)
        go_ret
        exact ⟨ret_int HE.out.symm, rfl⟩
    · have HE : Hid (E = 0) := by show _ = _; rw [← hw.out]; exact risingE_end (by omega)
      go_wp2
      go_ret
      exact ⟨ret_int HE.out.symm, rfl⟩

end Go.Proofs.Ytfeefijaahjheaa
