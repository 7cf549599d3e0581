/- The contracts of the reference's outside and better. -/
import Derived.Test.YtkifmjohcmjeeaaTClimbL
import Derived.Test.YtkifmjohcmjeeaaTRChk
namespace Go.Proofs.Ytkifmjohcmjeeaa
open Go.RowKit

theorem routside_no (n lo hi : Int) (h0 : lo ≤ n) (h1 : n ≤ hi) (w : World) : Calls Try.prog 97 #[.int .i64 n, .int .i64 lo, .int .i64 hi] w fun e w' => e = .returned (.bool false) ∧ w = w' := by
  have e1 : decide (n < lo) = false := by simp; omega
  go_enter Try.func97, Try.ntmps97
  go_wp2
  go_ret
  exact ⟨ret_bool (by first | rfl | (simp; omega)), rfl⟩
theorem routside_yes (n lo hi : Int) (h : n < lo ∨ hi < n) (w : World) : Calls Try.prog 97 #[.int .i64 n, .int .i64 lo, .int .i64 hi] w fun e w' => e = .returned (.bool true) ∧ w = w' := by
  by_cases h0 : n < lo
  · clear h
    go_enter Try.func97, Try.ntmps97
    go_wp2
    go_ret
    exact ⟨ret_bool (by first | rfl | (simp; omega)), rfl⟩
  · have h1 : hi < n := by omega
    clear h
    go_enter Try.func97, Try.ntmps97
    go_wp2
    go_ret
    exact ⟨ret_bool (by first | rfl | (simp; omega)), rfl⟩

theorem rbetter_is (a b : Wt) (w : World) {q : Bool} (hq : Hid (better2 a b = q)) : Calls Try.prog 98 #[.agg #[.int .i64 a.sum, .int .i64 a.turns], .agg #[.int .i64 b.sum, .int .i64 b.turns]] w fun e w' => e = .returned (.bool q) ∧ w.grownBy w' none := by
  obtain ⟨sa, at_⟩ := a
  obtain ⟨sb, bt⟩ := b
  have hv := hq.out
  unfold better2 at hv
  simp only at hv
  have G := grown_trans (World.grownBy_alloc w (.cells #[.int .i64 sa, .int .i64 at_] 118) none) (World.grownBy_alloc (w.alloc (.cells #[.int .i64 sa, .int .i64 at_] 118)) (.cells #[.int .i64 sb, .int .i64 bt] 118) none)
  by_cases c1 : sb < sa
  · have HV : Hid (q = true) := by show _ = _; rw [← hv]; simp [c1]
    clear hv hq
    go_enter Try.func98, Try.ntmps98
    go_wp2
    go_ret
    exact ⟨ret_bool (by rw [HV.out]), G⟩
  · by_cases c2 : sa = sb
    · subst c2
      by_cases c3 : at_ < bt
      · have HV : Hid (q = true) := by show _ = _; rw [← hv]; simp [c3]
        clear hv hq
        go_enter Try.func98, Try.ntmps98
        go_wp2
        go_ret
        exact ⟨ret_bool (by first | exact HV.out.symm | (rw [HV.out]; done) | (rw [HV.out]; simp; omega)), G⟩
      · have HV : Hid (q = false) := by show _ = _; rw [← hv]; simp [c3]
        clear hv hq
        go_enter Try.func98, Try.ntmps98
        go_wp2
        go_ret
        exact ⟨ret_bool (by first | exact HV.out.symm | (rw [HV.out]; done) | (rw [HV.out]; simp; omega)), G⟩
    · have HV : Hid (q = false) := by show _ = _; rw [← hv]; simp [c1, c2]
      have e2 : (sa == sb) = false := by simpa using c2
      clear hv hq
      go_enter Try.func98, Try.ntmps98
      go_wp2
      go_ret
      exact ⟨ret_bool (by rw [HV.out]), G⟩
end Go.Proofs.Ytkifmjohcmjeeaa
