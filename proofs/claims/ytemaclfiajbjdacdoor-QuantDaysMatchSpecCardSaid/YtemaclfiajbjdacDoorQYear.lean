/- The contracts of quant's years. -/
import Derived.Test.YtemaclfiajbjdacDoorQDays
import Derived.Test.YtemaclfiajbjdacDoorQRef
namespace Go.Proofs.YtemaclfiajbjdacDoor
open Go.RowKit

/-- The year of a day. -/
def InYear (y d : Int) : Prop := NY y ≤ d ∧ d < NY (y + 1)

theorem year_from (d : Int) : ∀ (n : Nat) (y : Int), NY y ≤ d → d < NY y + 365 * n → ∃ Y, y ≤ Y ∧ InYear Y d
  | 0, y, h1, h2 => by omega
  | n + 1, y, h1, h2 => by
    by_cases h : d < NY (y + 1)
    · exact ⟨y, by omega, h1, h⟩
    · have := NY_lt y (y + 1) (by omega)
      obtain ⟨Y, g1, g2⟩ := year_from d n (y + 1) (by omega) (by push_cast at h2; omega)
      exact ⟨Y, by omega, g2⟩
theorem year_exists (d : Int) (h0 : -2 ≤ d) (h1 : d ≤ 1000010) : ∃ Y, 2000 ≤ Y ∧ Y ≤ 4738 ∧ InYear Y d := by
  obtain ⟨Y, g1, g2⟩ := year_from d 3000 2000 (by rw [NY_2000]; omega) (by rw [NY_2000]; omega)
  refine ⟨Y, g1, ?_, g2⟩
  rcases (show Y ≤ 4738 ∨ 4739 ≤ Y by omega) with h | h
  · exact h
  · have := NY_mono 4739 Y h
    have e : NY 4739 = 1000397 := by decide
    have := g2.1; omega

theorem newYear_any (y : Int) (h0 : 1999 ≤ y) (h1 : y ≤ 5001) (w : World) :
    Calls Tryd.prog 30 #[.int .i64 y] w fun e w' => e = .returned (.int .i64 (NY y)) ∧ w = w' := by
  go_enter Tryd.func30, Tryd.ntmps30
  go_wp2
  go_ret
  exact ⟨ret_int (by unfold NY; omega), rfl⟩

set_option maxHeartbeats 800000 in
theorem yearOf_any (d Y : Int) (h0 : 0 ≤ d) (h1 : d ≤ 1000010) (h2 : 2000 ≤ Y) (h3 : Y ≤ 4738) (hY : Hid (InYear Y d)) (w : World) :
    Calls Tryd.prog 34 #[.int .i64 d] w fun e w' => e = .returned (.int .i64 Y) ∧ w = w' := by
  have hg : 2000 + d / 366 ≤ Y := by
    rcases (show 2000 + d / 366 ≤ Y ∨ Y + 1 ≤ 2000 + d / 366 by omega) with h | h
    · exact h
    · exfalso
      have a1 := NY_mono _ _ h
      have a2 := hY.out.2
      have a3 : NY (2000 + d / 366) ≤ d := by unfold NY; omega
      omega
  go_enter Tryd.func34, Tryd.ntmps34
  go_wp2
  go_loopw [3] (fun t wr => ∃ y : Int, 2000 ≤ y ∧ y ≤ Y ∧ t = .int .i64 y ∧ w = wr) (fun t _ => (Y - intOf t).toNat)
  case atStart => exact ⟨_, by omega, hg, rfl, rfl⟩
  case round =>
    obtain ⟨y, g0, g1, rfl, rfl⟩ := hrel
    by_cases hlt : y < Y
    · have hc : NY (y + 1) ≤ d := by have a1 := NY_mono (y + 1) Y (by omega); have := hY.out.1; omega
      go_wp2_with (go_at_call 30; refine (newYear_any _ (by omega) (by omega) _).mono ?_; rintro e w1 ⟨rfl, rfl⟩)
      go_roundw
      case rel => exact ⟨y + 1, by omega, by omega, rfl, by trivial⟩
      case measure => simp [intOf]; omega
    · have he : y = Y := by omega
      have hc : d < NY (y + 1) := by rw [he]; exact hY.out.2
      have HE := Lib.hid he; clear he
      go_wp2_with (go_at_call 30; refine (newYear_any _ (by omega) (by omega) _).mono ?_; rintro e w1 ⟨rfl, rfl⟩)
      go_ret
      exact ⟨ret_int (by rw [HE.out]), rfl⟩

theorem isDay_yes (n : Int) (h0 : 0 ≤ n) (h1 : n ≤ 999999) (w : World) : Calls Tryd.prog 31 #[.int .i64 n] w fun e w' => e = .returned (.bool true) ∧ w = w' := by
  go_enter Tryd.func31, Tryd.ntmps31
  go_wp2
  go_ret
  exact ⟨ret_bool (by first | rfl | (simp; omega)), rfl⟩
theorem isDay_no (n : Int) (h : n < 0 ∨ 999999 < n) (w : World) : Calls Tryd.prog 31 #[.int .i64 n] w fun e w' => e = .returned (.bool false) ∧ w = w' := by
  by_cases h0 : n < 0
  · clear h
    go_enter Tryd.func31, Tryd.ntmps31
    go_wp2
    go_ret
    exact ⟨ret_bool (by first | rfl | (simp; omega)), rfl⟩
  · have h1 : 999999 < n := by omega
    clear h
    go_enter Tryd.func31, Tryd.ntmps31
    go_wp2
    go_ret
    exact ⟨ret_bool (by first | rfl | (simp; omega)), rfl⟩

end Go.Proofs.YtemaclfiajbjdacDoor
