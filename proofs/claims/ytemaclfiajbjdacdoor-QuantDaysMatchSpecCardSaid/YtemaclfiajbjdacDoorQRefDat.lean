/- The contracts of the reference's DateOf, Week, Weekday, WeekDay. -/
import Derived.Test.YtemaclfiajbjdacDoorQRefYear
namespace Go.Proofs.YtemaclfiajbjdacDoor
open Go.RowKit

/-- The month of a day of a year. -/
structure MonthIs (Y r M : Int) : Prop where
  lo : 1 ≤ M
  hi : M ≤ 12
  ge : cumD Y M ≤ r
  lt : r < cumD Y (M + 1)

theorem cumD_mono (y : Int) : ∀ (n : Nat) (a : Int), 1 ≤ a → a + n ≤ 13 → cumD y a ≤ cumD y (a + n)
  | 0, a, _, _ => by simp
  | n + 1, a, h1, h2 => by
    have := cumD_mono y n a h1 (by push_cast at h2; omega)
    have e := cumD_succ y (a + n) (by omega) (by push_cast at h2; omega)
    have := (monLen_bd y (a + n)).1
    push_cast
    rw [← Int.add_assoc]
    omega
theorem cumD_le (y a b : Int) (h1 : 1 ≤ a) (h : a ≤ b) (h2 : b ≤ 13) : cumD y a ≤ cumD y b := by
  have := cumD_mono y (b - a).toNat a h1 (by omega)
  rwa [show a + ((b - a).toNat : Int) = b by omega] at this

theorem month_from (Y r : Int) (h : r < yearLen Y) : ∀ (n : Nat) (m : Int), 1 ≤ m → m ≤ 12 → 12 - m = n → cumD Y m ≤ r → ∃ M, m ≤ M ∧ MonthIs Y r M
  | 0, m, h1, h2, h3, h4 => by
    have : m = 12 := by omega
    subst this
    exact ⟨12, by omega, by omega, by omega, h4, by show r < cumD Y 13; rw [cumD_13]; exact h⟩
  | n + 1, m, h1, h2, h3, h4 => by
    by_cases hc : r < cumD Y (m + 1)
    · exact ⟨m, by omega, h1, h2, h4, hc⟩
    · obtain ⟨M, g1, g2⟩ := month_from Y r h n (m + 1) (by omega) (by omega) (by push_cast at h3; omega) (by omega)
      exact ⟨M, by omega, g2⟩
theorem month_exists (Y r : Int) (h0 : 0 ≤ r) (h : r < yearLen Y) : ∃ M, MonthIs Y r M := by
  obtain ⟨M, _, g⟩ := month_from Y r h 11 1 (by omega) (by omega) (by omega) (by simp [cumD]; omega)
  exact ⟨M, g⟩

set_option maxHeartbeats 1600000 in
theorem rdateOf_any (d Y M : Int) (h0 : 0 ≤ d) (h1 : d ≤ 999999) (h2 : 2000 ≤ Y) (h3 : Y ≤ 4738) (hY : Hid (InYear Y d)) (hM : Hid (MonthIs Y (d - NY Y) M)) (w : World) :
    Calls Tryd.prog 9 #[.int .i64 d] w fun e w' => e = .returned (.tuple #[.int .i64 Y, .int .i64 M, .int .i64 (d - NY Y - cumD Y M + 1), .int .i64 0]) ∧ w = w' := by
  have hk0 : 0 ≤ (d + 2) / 146097 := by omega
  have hk1 : (d + 2) / 146097 ≤ 7 := by omega
  have hcy := NY_cycle ((d + 2) / 146097) 0
  rw [show (2000 : Int) + 0 = 2000 by omega, NY_2000, Int.add_zero] at hcy
  have hst : 2000 + (d + 2) / 146097 * 400 ≤ Y := by
    rcases (show 2000 + 400 * ((d + 2) / 146097) ≤ Y ∨ Y + 1 ≤ 2000 + 400 * ((d + 2) / 146097) by omega) with h | h
    · omega
    · have := NY_mono _ _ h
      have := hY.out.2
      omega
  have hn0 : (d + 2) % 146097 = d - NY (2000 + (d + 2) / 146097 * 400) := by
    rw [Int.mul_comm ((d + 2) / 146097) 400, hcy]; omega
  have HN0 := Lib.hid hn0; clear hn0 hcy
  have hM0 := hM.out.lo
  have hM1 := hM.out.hi
  go_enter Tryd.func9, Tryd.ntmps9
  go_wp2_with (go_at_call 33; refine (outside_no _ _ _ h0 h1 _).mono ?_; rintro e w1 ⟨rfl, rfl⟩)
  go_loopw [2, 6] (fun yv nv wr => ∃ y n : Int, 2000 ≤ y ∧ y ≤ Y ∧ yv = .int .i64 y ∧ nv = .int .i64 n ∧ 0 ≤ n ∧ n ≤ 999999 ∧ Hid (n = d - NY y) ∧ w = wr) (fun yv _ _ => (Y - intOf yv).toNat)
  case atStart => exact ⟨_, _, by omega, hst, rfl, rfl, by omega, by omega, HN0.out, rfl⟩
  case round =>
    obtain ⟨y, n, g0, g1, rfl, rfl, g2, g3, gn, rfl⟩ := hrel
    have hyb := yearLen_bd y
    have hs := NY_succ y
    by_cases hlt : y < Y
    · have hge : yearLen y ≤ n := by
        have := gn.out
        have := NY_mono (y + 1) Y (by omega)
        have := hY.out.1
        omega
      have hnx : Hid (n - yearLen y = d - NY (y + 1)) := by show _ = _; have := gn.out; omega
      have HS := Lib.hid hs; clear hs
      go_wp2_with (go_at_call 35; refine (ryearLong_any _ (by omega) (by omega) _).mono ?_; rintro e w1 ⟨rfl, rfl⟩)
      go_roundw
      case rel => exact ⟨y + 1, n - yearLen y, by omega, by omega, rfl, rfl, by omega, by omega, hnx, by trivial⟩
      case measure => simp [intOf]; omega
    · have he : y = Y := by omega
      subst he
      have hlt2 : n < yearLen y := by have := gn.out; have := hY.out.2; omega
      have HS := Lib.hid hs; clear hs
      go_wp2_with (go_at_call 35; refine (ryearLong_any _ (by omega) (by omega) _).mono ?_; rintro e w1 ⟨rfl, rfl⟩)
      go_loopw [3, 6] (fun mv nv wr => ∃ m k : Int, 1 ≤ m ∧ m ≤ M ∧ mv = .int .i64 m ∧ nv = .int .i64 k ∧ 0 ≤ k ∧ k ≤ 999999 ∧ Hid (k = d - NY y - cumD y m) ∧ w = wr) (fun mv _ _ => (M - intOf mv).toNat)
      case atStart => exact ⟨1, n, by omega, by omega, rfl, rfl, by omega, by omega, by show _ = _; have := gn.out; simp [cumD]; omega, by trivial⟩
      case round =>
        obtain ⟨m, k, f0, f1, rfl, rfl, f2, f3, fk, rfl⟩ := hrel
        have hmb := monLen_bd y m
        have hms := cumD_succ y m f0 (by omega)
        by_cases hml : m < M
        · have hge : monLen y m ≤ k := by
            have := fk.out
            have := cumD_le y (m + 1) M (by omega) (by omega) (by omega)
            have := hM.out.ge
            omega
          have hkx : Hid (k - monLen y m = d - NY y - cumD y (m + 1)) := by show _ = _; have := fk.out; omega
          have HMS := Lib.hid hms; clear hms
          go_wp2_with (go_at_call 36; refine (rmonthLong_any _ _ (by omega) (by omega) (by omega) (by omega) _).mono ?_; rintro e w1 ⟨rfl, rfl⟩)
          go_roundw
          case rel => exact ⟨m + 1, k - monLen y m, by omega, by omega, rfl, rfl, by omega, by omega, hkx, by trivial⟩
          case measure => simp [intOf]; omega
        · have hem : m = M := by omega
          subst hem
          have hlt3 : k < monLen y m := by have := fk.out; have := hM.out.lt; omega
          have HMS := Lib.hid hms; clear hms
          go_wp2_with (go_at_call 36; refine (rmonthLong_any _ _ (by omega) (by omega) (by omega) (by omega) _).mono ?_; rintro e w1 ⟨rfl, rfl⟩)
          exact bodyPost_ret (v := .tuple #[.int .i64 y, .int .i64 m, .int .i64 (k + 1), .int .i64 0]) (by simp [results, Tryd.results9, go_sem]) rfl ⟨by rw [fk.out], rfl⟩
end Go.Proofs.YtemaclfiajbjdacDoor
