/- For all days, Weekday, Week and WeekDay return what the reference says; a day is in the week that begins with its Monday. -/
import Derived.Test.YtfgemdfloeknfaaQRefDate
import Derived.Test.YtfgemdfloeknfaaQTold
namespace Go.Proofs.Ytfgemdfloeknfaa
open Go.RowKit

theorem rdateOf_no (d : Int) (h : d < 0 ∨ 999999 < d) (w : World) :
    Calls Try.prog 49 #[.int .i64 d] w fun e w' => e = .returned (.tuple #[.int .i64 0, .int .i64 0, .int .i64 0, .int .i64 9]) ∧ w = w' := by
  have H := Lib.hid h; clear h
  go_enter Try.func49, Try.ntmps49
  go_wp2_with (go_at_call 38; refine (outside_yes _ _ _ H.out _).mono ?_; rintro e w1 ⟨rfl, rfl⟩)
  exact bodyPost_ret (v := .tuple #[.int .i64 0, .int .i64 0, .int .i64 0, .int .i64 9]) (by simp [results, Try.results49, go_sem]) rfl ⟨rfl, rfl⟩

theorem rweekday_yes (d : Int) (h0 : 0 ≤ d) (h1 : d ≤ 999999) (w : World) :
    Calls Try.prog 21 #[.int .i64 d] w fun e w' => e = .returned (.tuple #[.int .i64 (d % 7), .int .i64 0]) ∧ w = w' := by
  go_enter Try.func21, Try.ntmps21
  go_wp2_with (go_at_call 38; refine (outside_no _ _ _ h0 h1 _).mono ?_; rintro e w1 ⟨rfl, rfl⟩)
  go_ret2
  exact ⟨rfl, rfl⟩
theorem rweekday_no (d : Int) (h : d < 0 ∨ 999999 < d) (w : World) :
    Calls Try.prog 21 #[.int .i64 d] w fun e w' => e = .returned (.tuple #[.int .i64 0, .int .i64 9]) ∧ w = w' := by
  have H := Lib.hid h; clear h
  go_enter Try.func21, Try.ntmps21
  go_wp2_with (go_at_call 38; refine (outside_yes _ _ _ H.out _).mono ?_; rintro e w1 ⟨rfl, rfl⟩)
  go_ret2
  exact ⟨rfl, rfl⟩
theorem rweek_no (d : Int) (h : d < 0 ∨ 999999 < d) (w : World) :
    Calls Try.prog 23 #[.int .i64 d] w fun e w' => e = .returned (.tuple #[.int .i64 0, .int .i64 0, .int .i64 9]) ∧ w = w' := by
  have H := Lib.hid h; clear h
  go_enter Try.func23, Try.ntmps23
  go_wp2_with (go_at_call 49; refine (rdateOf_no _ H.out _).mono ?_; rintro e w1 ⟨rfl, rfl⟩)
  go_ret3
  exact ⟨rfl, rfl⟩

set_option maxHeartbeats 800000 in
theorem rweek_any (d Y k : Int) (h0 : 0 ≤ d) (h1 : d ≤ 999999) (hk : Hid (WeekIs d Y k)) (w : World) :
    Calls Try.prog 23 #[.int .i64 d] w fun e w' => e = .returned (.tuple #[.int .i64 Y, .int .i64 k, .int .i64 0]) ∧ w = w' := by
  obtain ⟨Z, z0, z1, hZ⟩ := year_exists d (by omega) (by omega)
  obtain ⟨M, hM⟩ := month_exists Z (d - NY Z) (by have := hZ.1; omega) (by have := hZ.2; rw [NY_succ] at this; omega)
  have hY0 := hk.out.lo
  have hY1 := hk.out.hi
  have hb := FM_bd Y (by omega) (by omega)
  have hfm : FM Y ≤ d - d % 7 := (week_year Y _ (by omega)).1 hk.out.year.1
  have hfd : FM Y ≤ d := by omega
  have hfn : d < FM (Y + 1) := by
    have h1 := (not_congr (week_year (Y + 1) (d - d % 7) (by omega))).1 (by have := hk.out.year.2; omega)
    have h2 := FM_mod (Y + 1)
    omega
  have hYZ : Y ≤ Z + 1 := by
    rcases (show Y ≤ Z + 1 ∨ Z + 2 ≤ Y by omega) with h | h
    · exact h
    · have a1 := FM_mono (Z + 2) Y h
      have a2 := NY_lt (Z + 1) (Z + 2) (by omega)
      have a3 := hZ.2
      have a4 : NY (Z + 2) - 3 ≤ FM (Z + 2) := by unfold FM; omega
      omega
  have hnum : k = (d - FM Y) / 7 + 1 := by
    have e := week_num Y (d - d % 7) (by omega) hfm hY0
    have h2 := FM_mod Y
    rw [hk.out.num, e]; omega
  have HZ := Lib.hid hZ; have HM := Lib.hid hM; have HN := Lib.hid hnum; have HFN := Lib.hid hfn
  clear hZ hM hnum hfn hfm
  go_enter Try.func23, Try.ntmps23
  go_wp2_with (go_at_call 49; refine (rdateOf_any d Z M h0 h1 z0 z1 HZ HM _).mono ?_; rintro e w1 ⟨rfl, rfl⟩)
  go_loopw [5] (fun yv wr => ∃ y : Int, Y ≤ y ∧ y ≤ Z + 1 ∧ yv = .int .i64 y ∧ w = wr) (fun yv _ => (intOf yv).toNat)
  case atStart => exact ⟨_, hYZ, by omega, rfl, rfl⟩
  case round =>
    obtain ⟨y, g0, g1, rfl, rfl⟩ := hrel
    by_cases hlt : Y < y
    · have hc : d < FM y := by have := HFN.out; have := FM_mono (Y + 1) y (by omega); omega
      go_wp2_with (go_at_call 50; refine (rfirstMonday_any _ (by omega) (by omega) _).mono ?_; rintro e w1 ⟨rfl, rfl⟩)
      go_roundw
      case rel => exact ⟨y - 1, by omega, by omega, rfl, by trivial⟩
      case measure => simp [intOf]; omega
    · have he : y = Y := by omega
      subst he
      go_wp2_with (go_at_call 50; refine (rfirstMonday_any _ (by omega) (by omega) _).mono ?_; rintro e w1 ⟨rfl, rfl⟩)
      go_ret3
      exact ⟨ret_iii rfl (by rw [HN.out]) rfl, rfl⟩

theorem weekDayV_late (y k : Int) (h : 4739 < y) : weekDayV y k = (0, 9) := by
  unfold weekDayV
  by_cases h2 : 5000 < y
  · rw [if_pos (by omega)]
  · by_cases hk : k < 1
    · rw [if_pos (by omega)]
    · have h3 := FM_mono 4740 y (by omega)
      have e : FM 4740 = 1000762 ∨ 999999 < FM 4740 := by right; decide
      rw [if_pos]; omega

theorem weekDayV_many (y k : Int) (_h0 : 2000 ≤ y) (_h1 : y ≤ 5000) : (FM (y + 1) - FM y) / 7 < k ↔ FM (y + 1) ≤ FM y + 7 * (k - 1) := by
  have := FM_mod y
  have := FM_mod (y + 1)
  omega

set_option maxHeartbeats 1600000 in
theorem rweekDay_any (y k : Int) (hy0 : -9223372036854775808 ≤ y) (hy1 : y ≤ 9223372036854775807) (w : World) :
    Calls Try.prog 25 #[.int .i64 y, .int .i64 k] w fun e w' => e = .returned (.tuple #[.int .i64 (weekDayV y k).1, .int .i64 (weekDayV y k).2]) ∧ w = w' := by
  by_cases c1 : y < 2000 ∨ 4739 < y
  · have hv : weekDayV y k = (0, 9) := by
      rcases c1 with c | c
      · unfold weekDayV; rw [if_pos (by omega)]
      · exact weekDayV_late y k c
    have HV := Lib.hid hv; have C1 := Lib.hid c1; clear hv c1
    go_enter Try.func25, Try.ntmps25
    go_wp2_with (go_at_call 38; refine (outside_yes _ _ _ C1.out _).mono ?_; rintro e w1 ⟨rfl, rfl⟩)
    go_ret2
    exact ⟨ret_ii (by rw [HV.out]) (by rw [HV.out]), rfl⟩
  have d0 : 2000 ≤ y := by omega
  have d1 : y ≤ 4739 := by omega
  clear c1
  by_cases c3 : k < 1
  · have hv : weekDayV y k = (0, 9) := by unfold weekDayV; rw [if_pos (by omega)]
    have HV := Lib.hid hv; clear hv
    go_enter Try.func25, Try.ntmps25
    go_wp2_with (go_at_call 38; refine (outside_no _ _ _ d0 d1 _).mono ?_; rintro e w1 ⟨rfl, rfl⟩)
    go_ret2
    exact ⟨ret_ii (by rw [HV.out]) (by rw [HV.out]), rfl⟩
  have hf := FM_bd y (by omega) (by omega)
  have hf2 := FM_bd (y + 1) (by omega) (by omega)
  have hstep := FM_step y
  have hmany := weekDayV_many y k d0 (by omega)
  have hdv0 : 52 ≤ (FM (y + 1) - FM y) / 7 := by omega
  have hdv1 : (FM (y + 1) - FM y) / 7 ≤ 53 := by omega
  have hge : 0 ≤ FM (y + 1) - FM y := by omega
  by_cases c5 : (FM (y + 1) - FM y) / 7 < k
  · have hv : weekDayV y k = (0, 9) := by unfold weekDayV; have := hmany.1 c5; rw [if_pos (by omega)]
    have HV := Lib.hid hv; clear hv hmany hstep
    go_enter Try.func25, Try.ntmps25
    go_wp2_with (first | (go_at_call 38; refine (outside_no _ _ _ d0 d1 _).mono ?_; rintro e w1 ⟨rfl, rfl⟩) | (go_at_call 50; refine (rfirstMonday_any _ (by omega) (by omega) _).mono ?_; rintro e w1 ⟨rfl, rfl⟩))
    go_ret2
    exact ⟨ret_ii (by rw [HV.out]) (by rw [HV.out]), rfl⟩
  · have hk53 : k ≤ 53 := by omega
    by_cases c6 : 999999 < FM y + 7 * (k - 1)
    · have hv : weekDayV y k = (0, 9) := by unfold weekDayV; rw [if_pos (by omega)]
      have HV := Lib.hid hv; clear hv hmany hstep
      go_enter Try.func25, Try.ntmps25
      go_wp2_with (first | (go_at_call 38; refine (outside_no _ _ _ d0 d1 _).mono ?_; rintro e w1 ⟨rfl, rfl⟩) | (go_at_call 50; refine (rfirstMonday_any _ (by omega) (by omega) _).mono ?_; rintro e w1 ⟨rfl, rfl⟩))
      go_ret2
      exact ⟨ret_ii (by rw [HV.out]) (by rw [HV.out]), rfl⟩
    · have hv : weekDayV y k = (FM y + 7 * (k - 1), 0) := by unfold weekDayV; have := hmany; rw [if_neg (by omega)]
      have HV := Lib.hid hv; clear hv hmany hstep
      go_enter Try.func25, Try.ntmps25
      go_wp2_with (first | (go_at_call 38; refine (outside_no _ _ _ d0 d1 _).mono ?_; rintro e w1 ⟨rfl, rfl⟩) | (go_at_call 50; refine (rfirstMonday_any _ (by omega) (by omega) _).mono ?_; rintro e w1 ⟨rfl, rfl⟩))
      go_ret2
      exact ⟨ret_ii (by rw [HV.out]) (by rw [HV.out]), rfl⟩

theorem week_is (d : Int) (h0 : 0 ≤ d) (h1 : d ≤ 999999) : ∃ Y k, WeekIs d Y k ∧ weekDayV Y k = (d - d % 7, 0) := by
  obtain ⟨Y, y0, y1, hY⟩ := year_exists (d - d % 7 + 3) (by omega) (by omega)
  refine ⟨Y, _, ⟨y0, y1, hY, rfl⟩, ?_⟩
  have hfm : FM Y ≤ d - d % 7 := (week_year Y _ (by omega)).1 hY.1
  have e := week_num Y (d - d % 7) (by omega) hfm y0
  have hfn : d - d % 7 < FM (Y + 1) := by
    have h1 := (not_congr (week_year (Y + 1) (d - d % 7) (by omega))).1 (by have := hY.2; omega)
    omega
  have hm := FM_mod Y
  have hs := FM_step Y
  have hv : FM Y + 7 * ((d - d % 7 + 3 - NY Y) / 7 + 1 - 1) = d - d % 7 := by rw [e]; omega
  unfold weekDayV
  rw [hv, if_neg]
  rw [e]
  omega

theorem weekDay_is {y k n e : Int} (h : Hid (weekDayV y k = (n, e))) (hy0 : -9223372036854775808 ≤ y) (hy1 : y ≤ 9223372036854775807) (w : World) :
    Calls Try.prog 24 #[.int .i64 y, .int .i64 k] w fun x w' => x = .returned (.tuple #[.int .i64 n, .int .i64 e]) ∧ w = w' := by
  have q := weekDay_any y k hy0 hy1 w
  rw [h.out] at q; exact q
theorem rweekDay_is {y k n e : Int} (h : Hid (weekDayV y k = (n, e))) (hy0 : -9223372036854775808 ≤ y) (hy1 : y ≤ 9223372036854775807) (w : World) :
    Calls Try.prog 25 #[.int .i64 y, .int .i64 k] w fun x w' => x = .returned (.tuple #[.int .i64 n, .int .i64 e]) ∧ w = w' := by
  have q := rweekDay_any y k hy0 hy1 w
  rw [h.out] at q; exact q

set_option maxRecDepth 100000 in
set_option maxHeartbeats 1600000 in
theorem weeks_walk (d y k : Int) (hd0 : -9223372036854775808 ≤ d) (hd1 : d ≤ 9223372036854775807) (hy0 : -9223372036854775808 ≤ y) (hy1 : y ≤ 9223372036854775807) (_hk0 : -9223372036854775808 ≤ k) (_hk1 : k ≤ 9223372036854775807) (w : World) :
    Calls Try.prog 7 #[.int .i64 d, .int .i64 y, .int .i64 k] w fun x w' => x = .returned (.bool true) ∧ w.grownBy w' none := by
  rcases hv : weekDayV y k with ⟨n, e⟩
  have HV := Lib.hid hv; clear hv
  by_cases hr : d < 0 ∨ 999999 < d
  · have HR := Lib.hid hr; clear hr
    go_enter Try.func7, Try.ntmps7
    go_wp2_with fail
    refine (weekday_no d HR.out _).mono ?_; rintro _ w1 ⟨rfl, rfl⟩
    go_wp2_with fail
    refine (rweekday_no d HR.out _).mono ?_; rintro _ w1 ⟨rfl, rfl⟩
    go_wp2_with fail
    refine (week_no d HR.out _).mono ?_; rintro _ w1 ⟨rfl, rfl⟩
    go_wp2_with fail
    refine (rweek_no d HR.out _).mono ?_; rintro _ w1 ⟨rfl, rfl⟩
    go_wp2_with fail
    refine (weekDay_is HV hy0 hy1 _).mono ?_; rintro _ w1 ⟨rfl, rfl⟩
    go_wp2_with fail
    refine (rweekDay_is HV hy0 hy1 _).mono ?_; rintro _ w1 ⟨rfl, rfl⟩
    go_wp2_with (go_at_call 16; refine (told_any _).mono ?_; rintro _ w7 ⟨rfl, hg7⟩)
    go_ret
    exact ⟨rfl, by assumption⟩
  · have h0 : 0 ≤ d := by omega
    have h1 : d ≤ 999999 := by omega
    clear hr
    obtain ⟨Y, K, hk, hwd⟩ := week_is d h0 h1
    have hY0 := hk.lo
    have hY1 := hk.hi
    have HK := Lib.hid hk; have HW := Lib.hid hwd; clear hk hwd
    go_enter Try.func7, Try.ntmps7
    go_wp2_with fail
    refine (weekday_yes d h0 h1 _).mono ?_; rintro _ w1 ⟨rfl, rfl⟩
    go_wp2_with fail
    refine (rweekday_yes d h0 h1 _).mono ?_; rintro _ w1 ⟨rfl, rfl⟩
    go_wp2_with fail
    refine (week_any d Y K h0 h1 HK _).mono ?_; rintro _ w1 ⟨rfl, rfl⟩
    go_wp2_with fail
    refine (rweek_any d Y K h0 h1 HK _).mono ?_; rintro _ w1 ⟨rfl, rfl⟩
    go_wp2_with fail
    refine (weekDay_is HV hy0 hy1 _).mono ?_; rintro _ w1 ⟨rfl, rfl⟩
    go_wp2_with fail
    refine (rweekDay_is HV hy0 hy1 _).mono ?_; rintro _ w1 ⟨rfl, rfl⟩
    go_wp2_with fail
    refine (weekDay_is HW (by omega) (by omega) _).mono ?_; rintro _ w1 ⟨rfl, rfl⟩
    go_wp2_with (go_at_call 16; refine (told_any _).mono ?_; rintro _ w7 ⟨rfl, hg7⟩)
    go_ret
    exact ⟨rfl, by assumption⟩
end Go.Proofs.Ytfgemdfloeknfaa
