/- The reference's day of a date, and what it writes of no day. -/
import Derived.Test.YtemaclfiajbjdacDoorQText
namespace Go.Proofs.YtemaclfiajbjdacDoor
open Go.RowKit

theorem rdateOf_no (d : Int) (h : d < 0 ∨ 999999 < d) (w : World) :
    Calls Tryd.prog 9 #[.int .i64 d] w fun e w' => e = .returned (.tuple #[.int .i64 0, .int .i64 0, .int .i64 0, .int .i64 9]) ∧ w = w' := by
  have H := Lib.hid h; clear h
  go_enter Tryd.func9, Tryd.ntmps9
  go_wp2_with (go_at_call 33; refine (outside_yes _ _ _ H.out _).mono ?_; rintro e w1 ⟨rfl, rfl⟩)
  exact bodyPost_ret (v := .tuple #[.int .i64 0, .int .i64 0, .int .i64 0, .int .i64 9]) (by simp [results, Tryd.results9, go_sem]) rfl ⟨rfl, rfl⟩
theorem rdateText_no (d : Int) (h : d < 0 ∨ 999999 < d) (w : World) :
    Calls Tryd.prog 11 #[.int .i64 d] w fun e w' => e = .returned (.tuple #[.string ⟨#[]⟩, .int .i64 9]) ∧ w = w' := by
  have H := Lib.hid h; clear h
  go_enter Tryd.func11, Tryd.ntmps11
  go_wp2_with (go_at_call 9; refine (rdateOf_no _ H.out _).mono ?_; rintro e w1 ⟨rfl, rfl⟩)
  go_ret2
  exact ⟨rfl, rfl⟩

set_option maxHeartbeats 1600000 in
theorem rdayOf_yes (y m d : Int) (hy0 : 2000 ≤ y) (hy1 : y ≤ 4740) (hm0 : 1 ≤ m) (hm1 : m ≤ 12) (hd0 : 1 ≤ d) (hd1 : d ≤ monLen y m) (w : World) :
    Calls Tryd.prog 32 #[.int .i64 y, .int .i64 m, .int .i64 d] w fun e w' => e = .returned (.tuple #[.int .i64 (NY y + cumD y m + d - 1), .bool true]) ∧ w = w' := by
  have hny := NY_bd y (by omega) (by omega)
  have hml := monLen_bd y m
  go_enter Tryd.func32, Tryd.ntmps32
  go_wp2_with (first | (go_at_call 33; refine (outside_no _ _ _ (by omega) (by omega) _).mono ?_; rintro e w1 ⟨rfl, rfl⟩) | (go_at_call 36; refine (rmonthLong_any _ _ (by omega) (by omega) (by omega) (by omega) _).mono ?_; rintro e w1 ⟨rfl, rfl⟩) | (go_at_call 65; refine (rbefore_any _ hy0 (by omega) _).mono ?_; rintro e w1 ⟨rfl, rfl⟩))
  go_loopw [8, 9] (fun dv mv wr => ∃ k : Int, 1 ≤ k ∧ k ≤ m ∧ mv = .int .i64 k ∧ dv = .int .i64 (NY y + 2 + d - 3 + cumD y k) ∧ w = wr) (fun _ mv _ => (m - intOf mv).toNat)
  case atStart => exact ⟨1, by omega, by omega, rfl, by simp [cumD], rfl⟩
  case round =>
    obtain ⟨k, hk0, hk1, rfl, rfl, rfl⟩ := hrel
    have hcb := cumD_bd y k hk0 (by omega)
    by_cases hlt : k < m
    · have hkb := monLen_bd y k
      have hks := cumD_succ y k hk0 (by omega)
      obtain ⟨C, hC⟩ : ∃ C, cumD y k = C := ⟨_, rfl⟩
      rw [hC] at hcb hks
      rw [hC]
      have HKS := Lib.hid hks; clear hks hC
      go_wp2_with (go_at_call 36; refine (rmonthLong_any y k (by omega) (by omega) (by omega) (by omega) _).mono ?_; rintro e w1 ⟨rfl, rfl⟩)
      go_roundw
      case rel => exact ⟨k + 1, by omega, by omega, rfl, by rw [HKS.out]; exact congrArg _ (by omega), by trivial⟩
      case measure => simp [intOf]; omega
    · have hke : k = m := by omega
      subst hke
      obtain ⟨C, hC⟩ : ∃ C, cumD y k = C := ⟨_, rfl⟩
      rw [hC] at hcb
      rw [hC]
      have HC := Lib.hid hC; clear hC
      go_wp2_with fail
      go_ret2
      exact ⟨ret_ib (by rw [HC.out]; omega) rfl, rfl⟩

set_option maxHeartbeats 1600000 in
theorem rDayOf_any (y m d : Int) (w : World) :
    Calls Tryd.prog 7 #[.int .i64 y, .int .i64 m, .int .i64 d] w fun e w' => e = .returned (.tuple #[.int .i64 (dayV y m d).1, .int .i64 (dayV y m d).2]) ∧ w = w' := by
  have hdo : ∀ (b : Bool) (r : Int), (∀ w, Calls Tryd.prog 32 #[.int .i64 y, .int .i64 m, .int .i64 d] w fun e w' => e = .returned (.tuple #[.int .i64 r, .bool b]) ∧ w = w') → (b = false ∨ r < 0 ∨ 999999 < r) → dayV y m d = (0, 9) →
      Calls Tryd.prog 7 #[.int .i64 y, .int .i64 m, .int .i64 d] w fun e w' => e = .returned (.tuple #[.int .i64 (dayV y m d).1, .int .i64 (dayV y m d).2]) ∧ w = w' := by
    intro b r hc hb hv
    have HC := Lib.hid hc; have HV := Lib.hid hv; clear hc hv
    cases b with
    | false =>
      clear hb
      go_enter Tryd.func7, Tryd.ntmps7
      go_wp2_with (go_at_call 32; refine (HC.out _).mono ?_; rintro e w1 ⟨rfl, rfl⟩)
      go_ret2
      exact ⟨ret_ii (by rw [HV.out]) (by rw [HV.out]), rfl⟩
    | true =>
      have hb2 : r < 0 ∨ 999999 < r := by simpa using hb
      have HB := Lib.hid hb2; clear hb hb2
      go_enter Tryd.func7, Tryd.ntmps7
      go_wp2_with (first | (go_at_call 32; refine (HC.out _).mono ?_; rintro e w1 ⟨rfl, rfl⟩) | (go_at_call 33; refine (outside_yes _ _ _ HB.out _).mono ?_; rintro e w1 ⟨rfl, rfl⟩))
      go_ret2
      exact ⟨ret_ii (by rw [HV.out]) (by rw [HV.out]), rfl⟩
  by_cases c1 : y < 1990 ∨ 4740 < y
  · have hv : dayV y m d = (0, 9) := by
      unfold dayV
      rw [if_pos]
      rcases c1 with c | c
      · omega
      · by_cases z : 5000 < y ∨ m < 1 ∨ 12 < m ∨ d < 1
        · omega
        · have h1 := NY_mono 4741 y (by omega)
          have h2 : NY 4741 = 1001127 ∨ 999999 < NY 4741 := by right; decide
          have h3 := cumD_bd y m (by omega) (by omega)
          omega
    refine hdo false 0 (fun w => ?_) (.inl rfl) hv
    have C1 := Lib.hid c1; clear c1 hv hdo
    go_enter Tryd.func32, Tryd.ntmps32
    go_wp2_with (go_at_call 33; refine (outside_yes _ _ _ C1.out _).mono ?_; rintro e w1 ⟨rfl, rfl⟩)
    go_ret2
    exact ⟨rfl, rfl⟩
  have y0 : 1990 ≤ y := by omega
  have y1 : y ≤ 4740 := by omega
  clear c1
  by_cases c2 : m < 1 ∨ 12 < m
  · have hv : dayV y m d = (0, 9) := by unfold dayV; rw [if_pos (by omega)]
    refine hdo false 0 (fun w => ?_) (.inl rfl) hv
    have C2 := Lib.hid c2; clear c2 hv hdo
    go_enter Tryd.func32, Tryd.ntmps32
    go_wp2_with fail
    refine (outside_no _ _ _ y0 y1 _).mono ?_; rintro e w1 ⟨rfl, rfl⟩
    go_wp2_with fail
    refine (outside_yes _ _ _ C2.out _).mono ?_; rintro e w1 ⟨rfl, rfl⟩
    go_wp2_with fail
    go_ret2
    exact ⟨rfl, rfl⟩
  have m0 : 1 ≤ m := by omega
  have m1 : m ≤ 12 := by omega
  clear c2
  by_cases c3 : d < 1 ∨ monLen y m < d
  · have hv : dayV y m d = (0, 9) := by unfold dayV; rw [if_pos (by omega)]
    refine hdo false 0 (fun w => ?_) (.inl rfl) hv
    have C3 := Lib.hid c3; clear c3 hv hdo
    go_enter Tryd.func32, Tryd.ntmps32
    go_wp2_with fail
    refine (outside_no _ _ _ y0 y1 _).mono ?_; rintro e w1 ⟨rfl, rfl⟩
    go_wp2_with fail
    refine (outside_no _ _ _ m0 m1 _).mono ?_; rintro e w1 ⟨rfl, rfl⟩
    go_wp2_with fail
    refine (rmonthLong_any y m (by omega) (by omega) m0 (by omega) _).mono ?_; rintro e w1 ⟨rfl, rfl⟩
    go_wp2_with fail
    refine (outside_yes _ _ _ C3.out _).mono ?_; rintro e w1 ⟨rfl, rfl⟩
    go_wp2_with fail
    go_ret2
    exact ⟨rfl, rfl⟩
  have d0 : 1 ≤ d := by omega
  have d1 : d ≤ monLen y m := by omega
  clear c3
  by_cases c4 : y < 2000
  · have hv : dayV y m d = (0, 9) := by unfold dayV; rw [if_pos (by omega)]
    refine hdo true (-1) (fun w => ?_) (.inr (by omega)) hv
    clear hv hdo
    go_enter Tryd.func32, Tryd.ntmps32
    go_wp2_with fail
    refine (outside_no _ _ _ y0 y1 _).mono ?_; rintro e w1 ⟨rfl, rfl⟩
    go_wp2_with fail
    refine (outside_no _ _ _ m0 m1 _).mono ?_; rintro e w1 ⟨rfl, rfl⟩
    go_wp2_with fail
    refine (rmonthLong_any y m (by omega) (by omega) m0 (by omega) _).mono ?_; rintro e w1 ⟨rfl, rfl⟩
    go_wp2_with fail
    refine (outside_no _ _ _ d0 d1 _).mono ?_; rintro e w1 ⟨rfl, rfl⟩
    go_wp2_with fail
    go_ret2
    exact ⟨rfl, rfl⟩
  · have hy0 : 2000 ≤ y := by omega
    have hyes := rdayOf_yes y m d hy0 y1 m0 m1 d0 d1
    by_cases c5 : NY y + cumD y m + d - 1 < 0 ∨ 999999 < NY y + cumD y m + d - 1
    · exact hdo true _ hyes (.inr c5) (by unfold dayV; rw [if_pos (by omega)])
    · have hv : dayV y m d = (NY y + cumD y m + d - 1, 0) := by unfold dayV; rw [if_neg (by omega)]
      have r0 : 0 ≤ NY y + cumD y m + d - 1 := by omega
      have r1 : NY y + cumD y m + d - 1 ≤ 999999 := by omega
      have HY := Lib.hid hyes; have HV := Lib.hid hv; clear hyes hv hdo c5
      go_enter Tryd.func7, Tryd.ntmps7
      go_wp2_with (first | (go_at_call 32; refine (HY.out _).mono ?_; rintro e w1 ⟨rfl, rfl⟩) | (go_at_call 33; refine (outside_no _ _ _ r0 r1 _).mono ?_; rintro e w1 ⟨rfl, rfl⟩))
      go_ret2
      exact ⟨ret_ii (by rw [HV.out]) (by rw [HV.out]), rfl⟩
end Go.Proofs.YtemaclfiajbjdacDoor
