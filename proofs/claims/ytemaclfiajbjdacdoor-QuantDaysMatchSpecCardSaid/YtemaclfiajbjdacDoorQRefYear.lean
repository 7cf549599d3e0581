/- The contracts of the reference's days and weeks. -/
import Derived.Test.YtemaclfiajbjdacDoorQYear
namespace Go.Proofs.YtemaclfiajbjdacDoor
open Go.RowKit

theorem rleap_any (y : Int) (h0 : 0 ≤ y) (h1 : y ≤ 100000) (w : World) :
    Calls Tryd.prog 66 #[.int .i64 y] w fun e w' => e = .returned (.bool (leapB y)) ∧ w = w' := by
  by_cases c1 : y % 4 = 0
  · have b1 : (y % 4 == 0) = true := by simpa using c1
    by_cases c2 : y % 100 = 0
    · have b2 : (y % 100 != 0) = false := by simpa using c2
      have hv : leapB y = decide (y % 400 = 0) := by simp [leapB, c1, c2]
      have HV := Lib.hid hv; clear hv c1 c2
      go_enter Tryd.func66, Tryd.ntmps66
      go_wp2
      go_ret
      exact ⟨ret_bool (by rw [HV.out]; rw [Bool.eq_iff_iff]; simp), rfl⟩
    · have b2 : (y % 100 != 0) = true := by simpa using c2
      have hv : leapB y = true := by simp [leapB, c1, c2]
      have HV := Lib.hid hv; clear hv c1 c2
      go_enter Tryd.func66, Tryd.ntmps66
      go_wp2
      go_ret
      exact ⟨ret_bool (by rw [HV.out]), rfl⟩
  · have b1 : (y % 4 == 0) = false := by simpa using c1
    have hv : leapB y = false := by simp [leapB, c1]
    have HV := Lib.hid hv; clear hv c1
    go_enter Tryd.func66, Tryd.ntmps66
    go_wp2
    go_ret
    exact ⟨ret_bool (by rw [HV.out]), rfl⟩

theorem rleap_is (y : Int) (h0 : 0 ≤ y) (h1 : y ≤ 100000) (w : World) {b : Bool} (h : Hid (leapB y = b)) :
    Calls Tryd.prog 66 #[.int .i64 y] w fun e w' => e = .returned (.bool b) ∧ w = w' := by
  have q := rleap_any y h0 h1 w
  rw [h.out] at q; exact q

theorem ryearLong_any (y : Int) (h0 : 0 ≤ y) (h1 : y ≤ 100000) (w : World) :
    Calls Tryd.prog 35 #[.int .i64 y] w fun e w' => e = .returned (.int .i64 (yearLen y)) ∧ w = w' := by
  rcases h : leapB y with _ | _
  · have hv : yearLen y = 365 := by simp [yearLen, h]
    have HV := Lib.hid hv; have H := Lib.hid h; clear hv h
    go_enter Tryd.func35, Tryd.ntmps35
    go_wp2_with (go_at_call 66; refine (rleap_is _ h0 h1 _ H).mono ?_; rintro e w1 ⟨rfl, rfl⟩)
    go_ret
    exact ⟨ret_int (by rw [HV.out]), rfl⟩
  · have hv : yearLen y = 366 := by simp [yearLen, h]
    have HV := Lib.hid hv; have H := Lib.hid h; clear hv h
    go_enter Tryd.func35, Tryd.ntmps35
    go_wp2_with (go_at_call 66; refine (rleap_is _ h0 h1 _ H).mono ?_; rintro e w1 ⟨rfl, rfl⟩)
    go_ret
    exact ⟨ret_int (by rw [HV.out]), rfl⟩

set_option maxHeartbeats 800000 in
theorem rmonthLong_any (y m : Int) (h0 : 0 ≤ y) (h1 : y ≤ 100000) (hm0 : 1 ≤ m) (hm1 : m ≤ 13) (w : World) :
    Calls Tryd.prog 36 #[.int .i64 y, .int .i64 m] w fun e w' => e = .returned (.int .i64 (monLen y m)) ∧ w = w' := by
  have hb := yearLen_bd y
  rcases (show m = 1 ∨ m = 2 ∨ m = 3 ∨ m = 4 ∨ m = 5 ∨ m = 6 ∨ m = 7 ∨ m = 8 ∨ m = 9 ∨ m = 10 ∨ m = 11 ∨ m = 12 ∨ m = 13 by omega) with rfl | rfl | rfl | rfl | rfl | rfl | rfl | rfl | rfl | rfl | rfl | rfl | rfl
  all_goals
    go_enter Tryd.func36, Tryd.ntmps36
    go_wp2_with (go_at_call 35; refine (ryearLong_any _ h0 h1 _).mono ?_; rintro e w1 ⟨rfl, rfl⟩)
    go_ret
    exact ⟨ret_int (by simp [monLen]), rfl⟩

set_option maxHeartbeats 800000 in
theorem rbefore_any (y : Int) (h0 : 2000 ≤ y) (h1 : y ≤ 10000) (w : World) :
    Calls Tryd.prog 65 #[.int .i64 y] w fun e w' => e = .returned (.int .i64 (NY y + 2)) ∧ w = w' := by
  have hq : 0 ≤ (y - 2000) / 400 := by omega
  have hq1 : (y - 2000) / 400 ≤ 20 := by omega
  have hr0 : 0 ≤ (y - 2000) % 400 := by omega
  have hr1 : (y - 2000) % 400 < 400 := by omega
  have hcyc := NY_cycle ((y - 2000) / 400) ((y - 2000) % 400)
  rw [show 2000 + 400 * ((y - 2000) / 400) + (y - 2000) % 400 = y by omega] at hcyc
  have HC := Lib.hid hcyc; clear hcyc
  go_enter Tryd.func65, Tryd.ntmps65
  go_wp2
  go_loopw [3, 4] (fun nv yv wr => ∃ z : Int, 2000 ≤ z ∧ z ≤ 2000 + (y - 2000) % 400 ∧ yv = .int .i64 z ∧ nv = .int .i64 ((y - 2000) / 400 * 146097 + (NY z + 2)) ∧ w = wr) (fun _ yv _ => (2000 + (y - 2000) % 400 - intOf yv).toNat)
  case atStart => exact ⟨2000, by omega, by omega, rfl, by rw [NY_2000]; go_num, rfl⟩
  case round =>
    obtain ⟨z, g0, g1, rfl, rfl, rfl⟩ := hrel
    have hs := NY_succ z
    have hnb : -2 ≤ NY z := by have := NY_mono 2000 z g0; rw [NY_2000] at this; exact this
    have hnb2 : NY z ≤ 200000 := by have := NY_mono z 2400 (by omega); have e : NY 2400 = 146095 := by decide
                                    omega
    have hyb := yearLen_bd z
    by_cases hlt : z < 2000 + (y - 2000) % 400
    · have HS := Lib.hid hs; clear hs
      go_wp2_with (go_at_call 35; refine (ryearLong_any _ (by omega) (by omega) _).mono ?_; rintro e w1 ⟨rfl, rfl⟩)
      go_roundw
      case rel => exact ⟨z + 1, by omega, by omega, rfl, by rw [HS.out]; go_num, by trivial⟩
      case measure => simp [intOf]; omega
    · have he : z = 2000 + (y - 2000) % 400 := by omega
      have HE := Lib.hid he; clear he hs
      go_wp2
      go_ret
      exact ⟨ret_int (by rw [HC.out, ← HE.out]; omega), rfl⟩

end Go.Proofs.YtemaclfiajbjdacDoor
