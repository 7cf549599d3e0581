/- The contracts of quant's and the reference's weeks. -/
import Derived.Test.YtfgemdfloeknfaaQDays
import Derived.Test.YtfgemdfloeknfaaQRef
namespace Go.Proofs.Ytfgemdfloeknfaa
open Go.RowKit

/-- The year of a day. -/
def InYear (y d : Int) : Prop := NY y ≤ d ∧ d < NY (y + 1)

theorem year_from (d : Int) : ∀ (n : Nat) (y : Int), NY y ≤ d → d < NY y + 365 * n → ∃ Y, y ≤ Y ∧ InYear Y d
  | 0, y, h1, h2 => by omega
  | n + 1, y, h1, h2 => by
    by_cases h : d < NY (y + 1)
    · exact ⟨y, by omega, h1, h⟩
    · have := NY_lt y (y + 1) (by omega)
      obtain ⟨Y, g1, g2⟩ := year_from d n (y + 1) (by omega) (by push_cast at h2; omega)
      exact ⟨Y, by omega, g2⟩
theorem year_exists (d : Int) (h0 : -2 ≤ d) (h1 : d ≤ 1000010) : ∃ Y, 2000 ≤ Y ∧ Y ≤ 4738 ∧ InYear Y d := by
  obtain ⟨Y, g1, g2⟩ := year_from d 3000 2000 (by rw [NY_2000]; omega) (by rw [NY_2000]; omega)
  refine ⟨Y, g1, ?_, g2⟩
  rcases (show Y ≤ 4738 ∨ 4739 ≤ Y by omega) with h | h
  · exact h
  · have := NY_mono 4739 Y h
    have e : NY 4739 = 1000397 := by decide
    have := g2.1; omega

theorem newYear_any (y : Int) (h0 : 1999 ≤ y) (h1 : y ≤ 5001) (w : World) :
    Calls Try.prog 48 #[.int .i64 y] w fun e w' => e = .returned (.int .i64 (NY y)) ∧ w = w' := by
  go_enter Try.func48, Try.ntmps48
  go_wp2
  go_ret
  exact ⟨ret_int (by unfold NY; omega), rfl⟩

set_option maxHeartbeats 800000 in
theorem yearOf_any (d Y : Int) (h0 : 0 ≤ d) (h1 : d ≤ 1000010) (h2 : 2000 ≤ Y) (h3 : Y ≤ 4738) (hY : Hid (InYear Y d)) (w : World) :
    Calls Try.prog 47 #[.int .i64 d] w fun e w' => e = .returned (.int .i64 Y) ∧ w = w' := by
  have hg : 2000 + d / 366 ≤ Y := by
    rcases (show 2000 + d / 366 ≤ Y ∨ Y + 1 ≤ 2000 + d / 366 by omega) with h | h
    · exact h
    · exfalso
      have a1 := NY_mono _ _ h
      have a2 := hY.out.2
      have a3 : NY (2000 + d / 366) ≤ d := by unfold NY; omega
      omega
  go_enter Try.func47, Try.ntmps47
  go_wp2
  go_loopw [3] (fun t wr => ∃ y : Int, 2000 ≤ y ∧ y ≤ Y ∧ t = .int .i64 y ∧ w = wr) (fun t _ => (Y - intOf t).toNat)
  case atStart => exact ⟨_, by omega, hg, rfl, rfl⟩
  case round =>
    obtain ⟨y, g0, g1, rfl, rfl⟩ := hrel
    by_cases hlt : y < Y
    · have hc : NY (y + 1) ≤ d := by have a1 := NY_mono (y + 1) Y (by omega); have := hY.out.1; omega
      go_wp2_with (go_at_call 48; refine (newYear_any _ (by omega) (by omega) _).mono ?_; rintro e w1 ⟨rfl, rfl⟩)
      go_roundw
      case rel => exact ⟨y + 1, by omega, by omega, rfl, by trivial⟩
      case measure => simp [intOf]; omega
    · have he : y = Y := by omega
      have hc : d < NY (y + 1) := by rw [he]; exact hY.out.2
      have HE := Lib.hid he; clear he
      go_wp2_with (go_at_call 48; refine (newYear_any _ (by omega) (by omega) _).mono ?_; rintro e w1 ⟨rfl, rfl⟩)
      go_ret
      exact ⟨ret_int (by rw [HE.out]), rfl⟩

theorem isDay_yes (n : Int) (h0 : 0 ≤ n) (h1 : n ≤ 999999) (w : World) : Calls Try.prog 46 #[.int .i64 n] w fun e w' => e = .returned (.bool true) ∧ w = w' := by
  go_enter Try.func46, Try.ntmps46
  go_wp2
  go_ret
  exact ⟨ret_bool (by first | rfl | (simp; omega)), rfl⟩
theorem isDay_no (n : Int) (h : n < 0 ∨ 999999 < n) (w : World) : Calls Try.prog 46 #[.int .i64 n] w fun e w' => e = .returned (.bool false) ∧ w = w' := by
  by_cases h0 : n < 0
  · clear h
    go_enter Try.func46, Try.ntmps46
    go_wp2
    go_ret
    exact ⟨ret_bool (by first | rfl | (simp; omega)), rfl⟩
  · have h1 : 999999 < n := by omega
    clear h
    go_enter Try.func46, Try.ntmps46
    go_wp2
    go_ret
    exact ⟨ret_bool (by first | rfl | (simp; omega)), rfl⟩

theorem firstMonday_any (y : Int) (h0 : 2000 ≤ y) (h1 : y ≤ 5001) (w : World) :
    Calls Try.prog 51 #[.int .i64 y] w fun e w' => e = .returned (.int .i64 (FM y)) ∧ w = w' := by
  have hb := NY_bd y (by omega) h1
  have hb2 : -2 ≤ NY y := by have := NY_mono 2000 y h0; rw [NY_2000] at this; exact this
  go_enter Try.func51, Try.ntmps51
  go_wp2_with (go_at_call 48; refine (newYear_any _ (by omega) (by omega) _).mono ?_; rintro e w1 ⟨rfl, rfl⟩)
  go_ret
  exact ⟨ret_int (by unfold FM; omega), rfl⟩

theorem FM_bd (y : Int) (h0 : 2000 ≤ y) (h1 : y ≤ 5001) : 0 ≤ FM y ∧ FM y ≤ 1096110 := by
  have hb := NY_bd y (by omega) h1
  have hb2 : -2 ≤ NY y := by have := NY_mono 2000 y h0; rw [NY_2000] at this; exact this
  unfold FM; omega
theorem FM_mono (a b : Int) (h : a ≤ b) : FM a ≤ FM b := by
  have := NY_mono a b h
  unfold FM; omega

/-- The week of a day in range. -/
structure WeekIs (d Y k : Int) : Prop where
  lo : 2000 ≤ Y
  hi : Y ≤ 4738
  year : InYear Y (d - d % 7 + 3)
  num : k = (d - d % 7 + 3 - NY Y) / 7 + 1

set_option maxHeartbeats 800000 in
theorem week_any (d Y k : Int) (h0 : 0 ≤ d) (h1 : d ≤ 999999) (hk : Hid (WeekIs d Y k)) (w : World) :
    Calls Try.prog 22 #[.int .i64 d] w fun e w' => e = .returned (.tuple #[.int .i64 Y, .int .i64 k, .int .i64 0]) ∧ w = w' := by
  have hY0 := hk.out.lo
  have hY1 := hk.out.hi
  have hb := NY_bd Y (by omega) (by omega)
  have hm0 : 0 ≤ d % 7 := by omega
  have hm1 : d % 7 ≤ 6 := by omega
  have hm2 : d % 7 ≤ d := by omega
  have hn : NY Y ≤ d - d % 7 + 3 := hk.out.year.1
  go_enter Try.func22, Try.ntmps22
  go_wp2_with (first | (go_at_call 46; refine (isDay_yes _ h0 h1 _).mono ?_; rintro e w1 ⟨rfl, rfl⟩) | (go_at_call 47; refine (yearOf_any _ Y (by omega) (by omega) hY0 hY1 hk.out.year _).mono ?_; rintro e w1 ⟨rfl, rfl⟩) | (go_at_call 48; refine (newYear_any _ (by omega) (by omega) _).mono ?_; rintro e w1 ⟨rfl, rfl⟩))
  go_ret3
  exact ⟨ret_iii rfl (by rw [hk.out.num]) rfl, rfl⟩

theorem week_no (d : Int) (h : d < 0 ∨ 999999 < d) (w : World) :
    Calls Try.prog 22 #[.int .i64 d] w fun e w' => e = .returned (.tuple #[.int .i64 0, .int .i64 0, .int .i64 9]) ∧ w = w' := by
  have H := Lib.hid h; clear h
  go_enter Try.func22, Try.ntmps22
  go_wp2_with (go_at_call 46; refine (isDay_no _ H.out _).mono ?_; rintro e w1 ⟨rfl, rfl⟩)
  go_ret3
  exact ⟨rfl, rfl⟩

theorem weekday_yes (d : Int) (h0 : 0 ≤ d) (h1 : d ≤ 999999) (w : World) :
    Calls Try.prog 20 #[.int .i64 d] w fun e w' => e = .returned (.tuple #[.int .i64 (d % 7), .int .i64 0]) ∧ w = w' := by
  go_enter Try.func20, Try.ntmps20
  go_wp2_with (go_at_call 46; refine (isDay_yes _ h0 h1 _).mono ?_; rintro e w1 ⟨rfl, rfl⟩)
  go_ret2
  exact ⟨rfl, rfl⟩
theorem weekday_no (d : Int) (h : d < 0 ∨ 999999 < d) (w : World) :
    Calls Try.prog 20 #[.int .i64 d] w fun e w' => e = .returned (.tuple #[.int .i64 0, .int .i64 9]) ∧ w = w' := by
  have H := Lib.hid h; clear h
  go_enter Try.func20, Try.ntmps20
  go_wp2_with (go_at_call 46; refine (isDay_no _ H.out _).mono ?_; rintro e w1 ⟨rfl, rfl⟩)
  go_ret2
  exact ⟨rfl, rfl⟩

def weekDayV (y k : Int) : Int × Int :=
  if y < 2000 ∨ 5000 < y ∨ k < 1 ∨ 53 < k ∨ FM (y + 1) ≤ FM y + 7 * (k - 1) ∨ 999999 < FM y + 7 * (k - 1) then (0, 9) else (FM y + 7 * (k - 1), 0)

set_option maxHeartbeats 1600000 in
theorem weekDay_any (y k : Int) (hy0 : -9223372036854775808 ≤ y) (hy1 : y ≤ 9223372036854775807) (w : World) :
    Calls Try.prog 24 #[.int .i64 y, .int .i64 k] w fun e w' => e = .returned (.tuple #[.int .i64 (weekDayV y k).1, .int .i64 (weekDayV y k).2]) ∧ w = w' := by
  by_cases c1 : y < 2000
  · have hv : weekDayV y k = (0, 9) := by unfold weekDayV; rw [if_pos (by omega)]
    have HV := Lib.hid hv; clear hv
    go_enter Try.func24, Try.ntmps24
    go_wp2
    go_ret2
    exact ⟨ret_ii (by rw [HV.out]) (by rw [HV.out]), rfl⟩
  by_cases c2 : 5000 < y
  · have hv : weekDayV y k = (0, 9) := by unfold weekDayV; rw [if_pos (by omega)]
    have HV := Lib.hid hv; clear hv
    go_enter Try.func24, Try.ntmps24
    go_wp2
    go_ret2
    exact ⟨ret_ii (by rw [HV.out]) (by rw [HV.out]), rfl⟩
  by_cases c3 : k < 1
  · have hv : weekDayV y k = (0, 9) := by unfold weekDayV; rw [if_pos (by omega)]
    have HV := Lib.hid hv; clear hv
    go_enter Try.func24, Try.ntmps24
    go_wp2
    go_ret2
    exact ⟨ret_ii (by rw [HV.out]) (by rw [HV.out]), rfl⟩
  by_cases c4 : 53 < k
  · have hv : weekDayV y k = (0, 9) := by unfold weekDayV; rw [if_pos (by omega)]
    have HV := Lib.hid hv; clear hv
    go_enter Try.func24, Try.ntmps24
    go_wp2
    go_ret2
    exact ⟨ret_ii (by rw [HV.out]) (by rw [HV.out]), rfl⟩
  have hf := FM_bd y (by omega) (by omega)
  by_cases c5 : FM (y + 1) ≤ FM y + 7 * (k - 1)
  · have hv : weekDayV y k = (0, 9) := by unfold weekDayV; rw [if_pos (by omega)]
    have HV := Lib.hid hv; clear hv
    go_enter Try.func24, Try.ntmps24
    go_wp2_with (go_at_call 51; refine (firstMonday_any _ (by omega) (by omega) _).mono ?_; rintro e w1 ⟨rfl, rfl⟩)
    go_ret2
    exact ⟨ret_ii (by rw [HV.out]) (by rw [HV.out]), rfl⟩
  by_cases c6 : 999999 < FM y + 7 * (k - 1)
  · have hv : weekDayV y k = (0, 9) := by unfold weekDayV; rw [if_pos (by omega)]
    have HV := Lib.hid hv; clear hv
    go_enter Try.func24, Try.ntmps24
    go_wp2_with (first | (go_at_call 51; refine (firstMonday_any _ (by omega) (by omega) _).mono ?_; rintro e w1 ⟨rfl, rfl⟩) | (go_at_call 46; refine (isDay_no _ (by omega) _).mono ?_; rintro e w1 ⟨rfl, rfl⟩))
    go_ret2
    exact ⟨ret_ii (by rw [HV.out]) (by rw [HV.out]), rfl⟩
  · have hv : weekDayV y k = (FM y + 7 * (k - 1), 0) := by unfold weekDayV; rw [if_neg (by omega)]
    have HV := Lib.hid hv; clear hv
    go_enter Try.func24, Try.ntmps24
    go_wp2_with (first | (go_at_call 51; refine (firstMonday_any _ (by omega) (by omega) _).mono ?_; rintro e w1 ⟨rfl, rfl⟩) | (go_at_call 46; refine (isDay_yes _ (by omega) (by omega) _).mono ?_; rintro e w1 ⟨rfl, rfl⟩))
    go_ret2
    exact ⟨ret_ii (by rw [HV.out]) (by rw [HV.out]), rfl⟩
end Go.Proofs.Ytfgemdfloeknfaa
